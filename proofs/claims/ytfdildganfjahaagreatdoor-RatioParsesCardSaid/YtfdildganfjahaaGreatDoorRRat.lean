/-
  The walks of garmentref03, without Text and Parse.
-/
import Derived.Test.YtfdildganfjahaaGreatDoorRatM
import Derived.Test.YtfdildganfjahaaGreatDoorRatS
import Derived.Test.YtfdildganfjahaaGreatDoorRatC
import Derived.Test.YtfdildganfjahaaGreatDoorJRInt
namespace Go.Proofs.YtfdildganfjahaaGreatDoor
open Go.RowKit
attribute [local go_sem ↓] Go.wp_at_zero Go.wp_at_succ
set_option linter.unusedVariables false

set_option maxRecDepth 20000 in
set_option maxHeartbeats 2000000 in
theorem rreduce_q (b : Bool) {w : World} {v u : Value} {m d k j : Nat} (hm : Nm w v m k) (hd : Nm w u d j) (hk : k ≤ 100) (hj : j ≤ 100) (h0 : d ≠ 0) (x : Rat) (hx : mkRat (sgn b m) d = x) : Calls Tryz.prog 40 #[.bool b, v, u] w (QEnd x k j w) := by
  obtain ⟨A, n, c, rfl, _, _⟩ := hm.form
  obtain ⟨A', n', c', rfl, _, _⟩ := hd.form
  have hg : 0 < Nat.gcd m d := Nat.gcd_pos_of_pos_right _ (by omega)
  have hn : x.num = sgn b (m / Nat.gcd m d) := by rw [← hx]; exact RatN.low_num _ _ _ h0
  have he : x.den = d / Nat.gcd m d := by rw [← hx]; exact RatN.low_den' _ _ _ h0
  have HG := Lib.hid hg
  have HN := Lib.hid hn
  have HD := Lib.hid he
  clear hx h0 hg hn he
  have B0 := below_a1 w (.cells #[.bool false, .slice none 0 0, .slice none 0 0] 27)
  have hm := hm.below B0
  have hd := hd.below B0
  have kr := (Rq.new w (w.heap.size) (by simp))
  go_enter Tryz.func40, Tryz.ntmps40
  have kr_0 := kr.1
  have kr_1 := kr.2.1
  have kr_2 := kr.2.2.1
  have kr_3 := kr.2.2.2.1
  have kr_4 := kr.2.2.2.2.1
  have kr_5 := kr.2.2.2.2.2
  go_wp2_with fail
  refine (rgcd_n hm hd (by omega) (by omega)).mono ?_
  clear kr_0 kr_1 kr_2 kr_3 kr_4 kr_5
  rintro e w1 ⟨v1, rfl, z1, bb⟩
  have hm := hm.below bb
  have hd := hd.below bb
  have kr := kr.below bb
  have B0 := B0.trans (bb.mono B0.size)
  clear bb
  obtain ⟨A1, n1, c1, rfl, _, _⟩ := z1.nm.form
  have kr_0 := kr.1
  have kr_1 := kr.2.1
  have kr_2 := kr.2.2.1
  have kr_3 := kr.2.2.2.1
  have kr_4 := kr.2.2.2.2.1
  have kr_5 := kr.2.2.2.2.2
  go_wp2_with fail
  refine (rdiv_n hm z1.nm (by omega) (by omega) HG.out).mono ?_
  clear kr_0 kr_1 kr_2 kr_3 kr_4 kr_5
  rintro e w2 ⟨v2, v3, rfl, z2, z3, bb⟩
  have hm := hm.below bb
  have hd := hd.below bb
  have kr := kr.below bb
  have z1 := z1.below bb
  have B0 := B0.trans (bb.mono B0.size)
  clear bb
  obtain ⟨A2, n2, c2, rfl, _, _⟩ := z2.nm.form
  clear z3
  have kr_0 := kr.1
  have kr_1 := kr.2.1
  have kr_2 := kr.2.2.1
  have kr_3 := kr.2.2.2.1
  have kr_4 := kr.2.2.2.2.1
  have kr_5 := kr.2.2.2.2.2
  go_wp2_with fail
  refine (rdiv_n hd z1.nm (by omega) (by omega) HG.out).mono ?_
  clear kr_0 kr_1 kr_2 kr_3 kr_4 kr_5
  rintro e w3 ⟨v4, v5, rfl, z4, z5, bb⟩
  have hd := hd.below bb
  have kr := kr.below bb
  have z1 := z1.below bb
  have z2 := z2.below bb
  have B0 := B0.trans (bb.mono B0.size)
  clear bb
  obtain ⟨A4, n4, c4, rfl, _, _⟩ := z4.nm.form
  clear z5
  have kr_0 := kr.1
  have kr_1 := kr.2.1
  have kr_2 := kr.2.2.1
  have kr_3 := kr.2.2.2.1
  have kr_4 := kr.2.2.2.2.1
  have kr_5 := kr.2.2.2.2.2
  go_wp2_with fail
  refine (rnorm_i (z2.nm.iv b) (by omega)).mono ?_
  clear kr_0 kr_1 kr_2 kr_3 kr_4 kr_5
  rintro e w4 ⟨v6, rfl, z6, bb⟩
  have kr := kr.below bb
  have z2 := z2.below bb
  have z4 := z4.below bb
  have B0 := B0.trans (bb.mono B0.size)
  clear bb
  obtain ⟨b6, A6, n6, c6, rfl, z6⟩ := z6.cells
  have kr_0 := kr.1
  have kr_1 := kr.2.1
  have kr_2 := kr.2.2.1
  have kr_3 := kr.2.2.2.1
  have kr_4 := kr.2.2.2.2.1
  have kr_5 := kr.2.2.2.2.2
  go_wp2
  refine bodyPost_ret (v := .agg #[.bool b6, .slice A6 n6 c6, .slice A4 n4 c4]) (by simp [results, Tryz.results40, go_sem, kr_0, kr_1, kr_2]) rfl ⟨_, _, _, _, _, _, _, rfl, Qz.mk (z6.ret3 kr _ _ _) (z4.ret3 kr _ _ _) HN.out.symm HD.out.symm, below_ret3 B0 (by omega) _ _ _⟩
set_option maxRecDepth 20000 in
set_option maxHeartbeats 2000000 in
theorem rwhole_0 (w : World) : Calls Tryz.prog 48 #[.int .i64 0] w (QEnd 0 2 2 w) := by
  have B0 := below_a1 w (.cells #[.bool false, .slice none 0 0, .slice none 0 0] 27)
  have kr := (Rq.new w (w.heap.size) (by simp))
  go_enter Tryz.func48, Tryz.ntmps48
  have kr_0 := kr.1
  have kr_1 := kr.2.1
  have kr_2 := kr.2.2.1
  have kr_3 := kr.2.2.2.1
  have kr_4 := kr.2.2.2.2.1
  have kr_5 := kr.2.2.2.2.2
  go_wp2_with fail
  refine (riof_i 0 (by decide) (by decide) _).mono ?_
  clear kr_0 kr_1 kr_2 kr_3 kr_4 kr_5
  rintro e w1 ⟨v1, rfl, z1, bb⟩
  have kr := kr.below bb
  have B0 := B0.trans (bb.mono B0.size)
  clear bb
  obtain ⟨b1, A1, n1, c1, rfl, z1⟩ := z1.cells
  have kr_0 := kr.1
  have kr_1 := kr.2.1
  have kr_2 := kr.2.2.1
  have kr_3 := kr.2.2.2.1
  have kr_4 := kr.2.2.2.2.1
  have kr_5 := kr.2.2.2.2.2
  go_wp2_with fail
  refine (rof_z' 1 1 rfl (by decide)).mono ?_
  clear kr_0 kr_1 kr_2 kr_3 kr_4 kr_5
  rintro e w2 ⟨v2, rfl, z2, bb⟩
  have kr := kr.below bb
  have z1 := z1.below bb
  have B0 := B0.trans (bb.mono B0.size)
  clear bb
  obtain ⟨A2, n2, c2, rfl, _, _⟩ := z2.nm.form
  have kr_0 := kr.1
  have kr_1 := kr.2.1
  have kr_2 := kr.2.2.1
  have kr_3 := kr.2.2.2.1
  have kr_4 := kr.2.2.2.2.1
  have kr_5 := kr.2.2.2.2.2
  go_wp2
  refine bodyPost_ret (v := .agg #[.bool b1, .slice A1 n1 c1, .slice A2 n2 c2]) (by simp [results, Tryz.results48, go_sem, kr_0, kr_1, kr_2]) rfl ⟨_, _, _, _, _, _, _, rfl, Qz.mk (z1.ret3 kr _ _ _) (z2.ret3 kr _ _ _) rfl rfl, below_ret3 B0 (by omega) _ _ _⟩
theorem rnorm_e {w : World} {va : Value} {a k : Nat} (ha : Nm w va a k) (hk : k ≤ 1000) : Calls Tryz.prog 82 #[va] w (fun e w' => ∃ A n c, e = .returned (.slice A n c) ∧ (n = 0 ↔ a = 0) ∧ n ≤ k ∧ Below w.heap.size w w') :=
  (rnorm_n ha hk).mono fun e w' h => by
    obtain ⟨v, he, hz, hb⟩ := h.fin
    obtain ⟨A, n, c, rfl, _, _⟩ := hz.nm.form
    exact ⟨A, n, c, he, hz.len0.1, hz.len0.2.1, hb⟩
set_option maxRecDepth 20000 in
set_option maxHeartbeats 2000000 in
theorem rzero_a {w : World} {b : Bool} {A : Option Addr} {n c : Nat} {B : Option Addr} {m c' k j d a : Nat} (hn : Nm w (.slice A n c) a k) (hd : Nm w (.slice B m c') d j) (hk : k ≤ 900) (hj : j ≤ 900) (h : a = 0) : Calls Tryz.prog 39 #[.agg #[.bool b, .slice A n c, .slice B m c']] w (BoolEnd true w) := by
  have H := Lib.hid h
  clear h
  have B0 := below_a1 w (.cells #[.bool b, .slice A n c, .slice B m c'] 27)
  have hn := hn.below B0
  have hd := hd.below B0
  have ka := (Bq.new w (w.heap.size) (by simp) (.bool b) (.slice A n c) (.slice B m c'))
  go_enter Tryz.func39, Tryz.ntmps39
  have ka_0 := ka.c0
  have ka_1 := ka.c1
  have ka_2 := ka.c2
  go_wp2_with fail
  refine (rnorm_e hn (by omega)).mono ?_
  clear ka_0 ka_1 ka_2
  rintro e w1 ⟨A1, n1, c1, rfl, hz, hk1, bb⟩
  have hn := hn.below bb
  have hd := hd.below bb
  have ka := ka.below bb
  have B0 := B0.trans (bb.mono B0.size)
  clear bb
  obtain rfl : n1 = 0 := hz.2 H.out
  clear hz
  go_wp2
  go_ret
  exact ⟨rfl, B0⟩
set_option maxRecDepth 20000 in
set_option maxHeartbeats 2000000 in
theorem rzero_d {w : World} {b : Bool} {A : Option Addr} {n c : Nat} {B : Option Addr} {m c' k j d a : Nat} (hn : Nm w (.slice A n c) a k) (hd : Nm w (.slice B m c') d j) (hk : k ≤ 900) (hj : j ≤ 900) (h : a ≠ 0) (h' : d = 0) : Calls Tryz.prog 39 #[.agg #[.bool b, .slice A n c, .slice B m c']] w (BoolEnd true w) := by
  have H := Lib.hid h
  clear h
  have H' := Lib.hid h'
  clear h'
  have B0 := below_a1 w (.cells #[.bool b, .slice A n c, .slice B m c'] 27)
  have hn := hn.below B0
  have hd := hd.below B0
  have ka := (Bq.new w (w.heap.size) (by simp) (.bool b) (.slice A n c) (.slice B m c'))
  go_enter Tryz.func39, Tryz.ntmps39
  have ka_0 := ka.c0
  have ka_1 := ka.c1
  have ka_2 := ka.c2
  go_wp2_with fail
  refine (rnorm_e hn (by omega)).mono ?_
  clear ka_0 ka_1 ka_2
  rintro e w1 ⟨A1, n1, c1, rfl, hz, hk1, bb⟩
  have hn := hn.below bb
  have hd := hd.below bb
  have ka := ka.below bb
  have B0 := B0.trans (bb.mono B0.size)
  clear bb
  have hb1 : (((n1 : Nat) : Int) == 0) = false := by
    rw [beq_eq_false_iff_ne]; have := hz.1; have := H.out; omega
  clear hz
  have ka_0 := ka.c0
  have ka_1 := ka.c1
  have ka_2 := ka.c2
  go_wp2_with fail
  refine (rnorm_e hd (by omega)).mono ?_
  clear ka_0 ka_1 ka_2
  rintro e w2 ⟨A2, n2, c2, rfl, hz, hk2, bb⟩
  have hn := hn.below bb
  have hd := hd.below bb
  have ka := ka.below bb
  have B0 := B0.trans (bb.mono B0.size)
  clear bb
  obtain rfl : n2 = 0 := hz.2 H'.out
  clear hz
  go_wp2
  go_ret
  exact ⟨rfl, B0⟩
set_option maxRecDepth 20000 in
set_option maxHeartbeats 2000000 in
theorem rzero_n {w : World} {b : Bool} {A : Option Addr} {n c : Nat} {B : Option Addr} {m c' k j d a : Nat} (hn : Nm w (.slice A n c) a k) (hd : Nm w (.slice B m c') d j) (hk : k ≤ 900) (hj : j ≤ 900) (h : a ≠ 0) (h' : d ≠ 0) : Calls Tryz.prog 39 #[.agg #[.bool b, .slice A n c, .slice B m c']] w (BoolEnd false w) := by
  have H := Lib.hid h
  clear h
  have H' := Lib.hid h'
  clear h'
  have B0 := below_a1 w (.cells #[.bool b, .slice A n c, .slice B m c'] 27)
  have hn := hn.below B0
  have hd := hd.below B0
  have ka := (Bq.new w (w.heap.size) (by simp) (.bool b) (.slice A n c) (.slice B m c'))
  go_enter Tryz.func39, Tryz.ntmps39
  have ka_0 := ka.c0
  have ka_1 := ka.c1
  have ka_2 := ka.c2
  go_wp2_with fail
  refine (rnorm_e hn (by omega)).mono ?_
  clear ka_0 ka_1 ka_2
  rintro e w1 ⟨A1, n1, c1, rfl, hz, hk1, bb⟩
  have hn := hn.below bb
  have hd := hd.below bb
  have ka := ka.below bb
  have B0 := B0.trans (bb.mono B0.size)
  clear bb
  have hb1 : (((n1 : Nat) : Int) == 0) = false := by
    rw [beq_eq_false_iff_ne]; have := hz.1; have := H.out; omega
  clear hz
  have ka_0 := ka.c0
  have ka_1 := ka.c1
  have ka_2 := ka.c2
  go_wp2_with fail
  refine (rnorm_e hd (by omega)).mono ?_
  clear ka_0 ka_1 ka_2
  rintro e w2 ⟨A2, n2, c2, rfl, hz, hk2, bb⟩
  have hn := hn.below bb
  have hd := hd.below bb
  have ka := ka.below bb
  have B0 := B0.trans (bb.mono B0.size)
  clear bb
  have hb2 : (((n2 : Nat) : Int) == 0) = false := by
    rw [beq_eq_false_iff_ne]; have := hz.1; have := H'.out; omega
  clear hz
  go_wp2
  go_ret
  exact ⟨rfl, B0⟩
/-- Zero says whether the value is 0. -/
theorem rzero_q {w : World} {v : Value} {x : Rat} {k j : Nat} (h : Qv w v x k j) (hk : k ≤ 900) (hj : j ≤ 900) (o : Bool) (ho : decide (x = 0) = o) : Calls Tryz.prog 39 #[v] w (BoolEnd o w) := by
  obtain ⟨b, A, n, c, B, m, c', z, d, rfl, h1, h2, rfl⟩ := h
  obtain ⟨b', a, ⟨hm, rfl⟩, rfl⟩ := h1.nm_of
  have e := RatN.mk_zero (sgn b a) d
  have e0 : sgn b a = 0 ↔ a = 0 := by cases b <;> simp [sgn]
  by_cases ha : a = 0
  · rw [← ho, decide_eq_true (e.mpr (.inl (e0.mpr ha)))]; exact rzero_a hm h2 hk hj ha
  · by_cases hd : d = 0
    · rw [← ho, decide_eq_true (e.mpr (.inr hd))]; exact rzero_d hm h2 hk hj ha hd
    · rw [← ho, decide_eq_false (fun h => (e.mp h).elim (fun h => ha (e0.mp h)) hd)]; exact rzero_n hm h2 hk hj ha hd
set_option maxRecDepth 20000 in
set_option maxHeartbeats 2000000 in
theorem rqnorm_z {w : World} {va : Value} {x : Rat} {k j : Nat} (ha : Qv w va x k j) (hk : k ≤ 90) (hj : j ≤ 90) (h0 : x = 0) : Calls Tryz.prog 15 #[va] w (QEnd x 2 2 w) := by
  obtain ⟨ba, Aa, na, ca, Ba, ma, da, z, d, rfl, hi, hd, hx⟩ := ha
  obtain ⟨b', a, ⟨hm, rfl⟩, rfl⟩ := hi.nm_of
  have ha : Qv w (.agg #[.bool ba, .slice Aa na ca, .slice Ba ma da]) x k j := ⟨_, _, _, _, _, _, _, _, _, rfl, hi, hd, hx⟩
  subst h0
  clear hx hi hd hm
  have B0 := below_a2 w (.cells #[.bool ba, .slice Aa na ca, .slice Ba ma da] 27) (.cells #[.bool false, .slice none 0 0, .slice none 0 0] 27)
  have ha := ha.below B0
  have ka := ((Bq.new w (w.heap.size) (by simp) (.bool ba) (.slice Aa na ca) (.slice Ba ma da)).below (below_alloc (w.alloc (.cells #[.bool ba, .slice Aa na ca, .slice Ba ma da] 27)) (.cells #[.bool false, .slice none 0 0, .slice none 0 0] 27)))
  have kr := (Rq.new (w.alloc (.cells #[.bool ba, .slice Aa na ca, .slice Ba ma da] 27)) (w.heap.size + 1) (by simp))
  go_enter Tryz.func15, Tryz.ntmps15
  have ka_0 := ka.c0
  have ka_1 := ka.c1
  have ka_2 := ka.c2
  have kr_0 := kr.1
  have kr_1 := kr.2.1
  have kr_2 := kr.2.2.1
  have kr_3 := kr.2.2.2.1
  have kr_4 := kr.2.2.2.2.1
  have kr_5 := kr.2.2.2.2.2
  go_wp2_with fail
  refine (rzero_q ha (by omega) (by omega) true (decide_eq_true rfl)).mono ?_
  clear ka_0 ka_1 ka_2 kr_0 kr_1 kr_2 kr_3 kr_4 kr_5
  rintro e w1 ⟨rfl, bb⟩
  have ha := ha.below bb
  have ka := ka.below bb
  have kr := kr.below bb
  have B0 := B0.trans (bb.mono B0.size)
  clear bb
  have kr_0 := kr.1
  have kr_1 := kr.2.1
  have kr_2 := kr.2.2.1
  have kr_3 := kr.2.2.2.1
  have kr_4 := kr.2.2.2.2.1
  have kr_5 := kr.2.2.2.2.2
  go_wp2_with fail
  refine (rwhole_0 _).mono ?_
  clear kr_0 kr_1 kr_2 kr_3 kr_4 kr_5
  rintro e w2 ⟨br, Ar, nr, cr, Br, mr, dr, rfl, zr, bb⟩
  have kr := kr.below bb
  have B0 := B0.trans (bb.mono B0.size)
  clear bb
  have kr_0 := kr.1
  have kr_1 := kr.2.1
  have kr_2 := kr.2.2.1
  have kr_3 := kr.2.2.2.1
  have kr_4 := kr.2.2.2.2.1
  have kr_5 := kr.2.2.2.2.2
  go_wp2
  refine bodyPost_ret (v := .agg #[.bool br, .slice Ar nr cr, .slice Br mr dr]) (by simp [results, Tryz.results15, go_sem, kr_0, kr_1, kr_2]) rfl ⟨_, _, _, _, _, _, _, rfl, zr.ret3 kr _ _ _, below_ret3 B0 (by omega) _ _ _⟩
set_option maxRecDepth 20000 in
set_option maxHeartbeats 2000000 in
theorem rqnorm_p {w : World} {va : Value} {x : Rat} {k j : Nat} (ha : Qv w va x k j) (hk : k ≤ 90) (hj : j ≤ 90) (h0 : x ≠ 0) : Calls Tryz.prog 15 #[va] w (QEnd x k j w) := by
  obtain ⟨ba, Aa, na, ca, Ba, ma, da, z, d, rfl, hi, hd, hx⟩ := ha
  obtain ⟨b', a, ⟨hm, rfl⟩, rfl⟩ := hi.nm_of
  have ha : Qv w (.agg #[.bool ba, .slice Aa na ca, .slice Ba ma da]) x k j := ⟨_, _, _, _, _, _, _, _, _, rfl, hi, hd, hx⟩
  have hd0 : d ≠ 0 := by rintro rfl; exact h0 (by rw [hx]; simp)
  have hz : decide (x = 0) = false := decide_eq_false h0
  clear h0 hi
  have HX := Lib.hid hx
  clear hx
  have HD0 := Lib.hid hd0
  clear hd0
  have HZ := Lib.hid hz
  clear hz
  have B0 := below_a2 w (.cells #[.bool ba, .slice Aa na ca, .slice Ba ma da] 27) (.cells #[.bool false, .slice none 0 0, .slice none 0 0] 27)
  have ha := ha.below B0
  have hm := hm.below B0
  have hd := hd.below B0
  have ka := ((Bq.new w (w.heap.size) (by simp) (.bool ba) (.slice Aa na ca) (.slice Ba ma da)).below (below_alloc (w.alloc (.cells #[.bool ba, .slice Aa na ca, .slice Ba ma da] 27)) (.cells #[.bool false, .slice none 0 0, .slice none 0 0] 27)))
  have kr := (Rq.new (w.alloc (.cells #[.bool ba, .slice Aa na ca, .slice Ba ma da] 27)) (w.heap.size + 1) (by simp))
  go_enter Tryz.func15, Tryz.ntmps15
  have ka_0 := ka.c0
  have ka_1 := ka.c1
  have ka_2 := ka.c2
  have kr_0 := kr.1
  have kr_1 := kr.2.1
  have kr_2 := kr.2.2.1
  have kr_3 := kr.2.2.2.1
  have kr_4 := kr.2.2.2.2.1
  have kr_5 := kr.2.2.2.2.2
  go_wp2_with fail
  refine (rzero_q ha (by omega) (by omega) false HZ.out).mono ?_
  clear ka_0 ka_1 ka_2 kr_0 kr_1 kr_2 kr_3 kr_4 kr_5
  rintro e w1 ⟨rfl, bb⟩
  have ha := ha.below bb
  have hm := hm.below bb
  have hd := hd.below bb
  have ka := ka.below bb
  have kr := kr.below bb
  have B0 := B0.trans (bb.mono B0.size)
  clear bb
  have ka_0 := ka.c0
  have ka_1 := ka.c1
  have ka_2 := ka.c2
  have kr_0 := kr.1
  have kr_1 := kr.2.1
  have kr_2 := kr.2.2.1
  have kr_3 := kr.2.2.2.1
  have kr_4 := kr.2.2.2.2.1
  have kr_5 := kr.2.2.2.2.2
  go_wp2_with fail
  refine (rreduce_q ba hm hd (by omega) (by omega) HD0.out _ HX.out.symm).mono ?_
  clear ka_0 ka_1 ka_2 kr_0 kr_1 kr_2 kr_3 kr_4 kr_5
  rintro e w2 ⟨br, Ar, nr, cr, Br, mr, dr, rfl, zr, bb⟩
  have hm := hm.below bb
  have hd := hd.below bb
  have ka := ka.below bb
  have kr := kr.below bb
  have B0 := B0.trans (bb.mono B0.size)
  clear bb
  have ka_0 := ka.c0
  have ka_1 := ka.c1
  have ka_2 := ka.c2
  have kr_0 := kr.1
  have kr_1 := kr.2.1
  have kr_2 := kr.2.2.1
  have kr_3 := kr.2.2.2.1
  have kr_4 := kr.2.2.2.2.1
  have kr_5 := kr.2.2.2.2.2
  go_wp2
  refine bodyPost_ret (v := .agg #[.bool br, .slice Ar nr cr, .slice Br mr dr]) (by simp [results, Tryz.results15, go_sem, kr_0, kr_1, kr_2]) rfl ⟨_, _, _, _, _, _, _, rfl, zr.ret3 kr _ _ _, below_ret3 B0 (by omega) _ _ _⟩
theorem QEnd.wide {x : Rat} {k j k' j' : Nat} {w w' : World} {e : Ending} (h : QEnd x k j w e w') (hk : k ≤ k') (hj : j ≤ j') : QEnd x k' j' w e w' := by
  obtain ⟨b, A, n, c, B, m, d, he, hz, hb⟩ := h
  exact ⟨b, A, n, c, B, m, d, he, hz.wide hk hj, hb⟩
theorem rqnorm_q {w : World} {va : Value} {x : Rat} {k j : Nat} (ha : Qv w va x k j) (hk : k ≤ 90) (hj : j ≤ 90) : Calls Tryz.prog 15 #[va] w (QEnd x (max k 2) (max j 2) w) := by
  by_cases h0 : x = 0
  · exact (rqnorm_z ha hk hj h0).mono fun e w' h => h.wide (by omega) (by omega)
  · exact (rqnorm_p ha hk hj h0).mono fun e w' h => h.wide (by omega) (by omega)
set_option maxRecDepth 20000 in
set_option maxHeartbeats 2000000 in
theorem rqof_0 (a : Int) (w : World) : Calls Tryz.prog 25 #[.int .i64 a, .int .i64 0] w (Q0End w) := by
  have B0 := below_a1 w (.cells #[.bool false, .slice none 0 0, .slice none 0 0] 27)
  have kr := (Rq.new w (w.heap.size) (by simp))
  go_enter Tryz.func25, Tryz.ntmps25
  have kr_0 := kr.1
  have kr_1 := kr.2.1
  have kr_2 := kr.2.2.1
  have kr_3 := kr.2.2.2.1
  have kr_4 := kr.2.2.2.2.1
  have kr_5 := kr.2.2.2.2.2
  go_wp2
  refine bodyPost_ret (v := .tuple #[.agg #[.bool false, .slice none 0 0, .slice none 0 0], .bool false]) (by simp [results, Tryz.results25, go_sem, kr_0, kr_1, kr_2]) rfl ⟨rfl, by first | exact B0 | exact b_drew (below_ret3 B0 (by omega) _ _ _) | skip⟩
set_option maxRecDepth 20000 in
set_option maxHeartbeats 8000000 in
theorem rqcmp_q {w : World} {va vp : Value} {x y : Rat} {k j k' j' : Nat} (ha : Qv w va x k j) (hp : Qv w vp y k' j') (h1 : k ≤ 20) (h2 : j ≤ 20) (h3 : k' ≤ 20) (h4 : j' ≤ 20) (o : Int) (ho : RatN.cmpQ x y = o) : Calls Tryz.prog 13 #[va, vp] w (I64End o w) := by
  obtain ⟨ba, Aa, na, ca, Ba, ma, da, rfl, _, _, _⟩ := ha.named
  obtain ⟨bp, Ap, np, cp, Bp, mp, dp, rfl, _, _, _⟩ := hp.named
  rw [← RatN.cmpQ_eq] at ho
  have HO := Lib.hid ho
  clear ho
  have B0 := below_a2 w (.cells #[.bool ba, .slice Aa na ca, .slice Ba ma da] 27) (.cells #[.bool bp, .slice Ap np cp, .slice Bp mp dp] 27)
  have ha := ha.below B0
  have hp := hp.below B0
  have ka := ((Bq.new w (w.heap.size) (by simp) (.bool ba) (.slice Aa na ca) (.slice Ba ma da)).below (below_alloc (w.alloc (.cells #[.bool ba, .slice Aa na ca, .slice Ba ma da] 27)) (.cells #[.bool bp, .slice Ap np cp, .slice Bp mp dp] 27)))
  have kp := (Bq.new (w.alloc (.cells #[.bool ba, .slice Aa na ca, .slice Ba ma da] 27)) (w.heap.size + 1) (by simp) (.bool bp) (.slice Ap np cp) (.slice Bp mp dp))
  go_enter Tryz.func13, Tryz.ntmps13
  go_upto_region 1 with fail
  obtain ⟨W1, hW⟩ : ∃ W0, ((w.alloc (.cells #[.bool ba, .slice Aa na ca, .slice Ba ma da] 27)).alloc (.cells #[.bool bp, .slice Ap np cp, .slice Bp mp dp] 27)) = W0 := ⟨_, rfl⟩
  rw [hW] at ha hp ka kp B0 ⊢
  clear hW
  have lka := ka.lt
  have lkp := kp.lt
  have hs : Bw (W1.heap.size) W1 W1 := ⟨Below.refl _ _, Nat.le_refl _⟩
  have HS : Hid (∀ w', Bw (W1.heap.size) W1 w' → w'.cell? ⟨w.heap.size, 0, none⟩ = some (.bool ba) ∧ w'.cell? ⟨w.heap.size, 1, none⟩ = some (.slice Aa na ca) ∧ w'.cell? ⟨w.heap.size, 2, none⟩ = some (.slice Ba ma da) ∧ w'.cell? ⟨w.heap.size + 1, 0, none⟩ = some (.bool bp) ∧ w'.cell? ⟨w.heap.size + 1, 1, none⟩ = some (.slice Ap np cp) ∧ w'.cell? ⟨w.heap.size + 1, 2, none⟩ = some (.slice Bp mp dp)) := by
    intro w' hb
    have e0 := hb.bq ka (by omega)
    have e1 := hb.bq kp (by omega)
    exact ⟨e0.c0, e0.c1, e0.c2, e1.c0, e1.c1, e1.c2⟩
  go_cut [5, 6] (fun s5 s6 wx => TwoQ (W1.heap.size) W1 x y (max k 2) (max j 2) (max k' 2) (max j' 2) s5 s6 wx)
  case first =>
    clear ka kp
    go_region_held3 (fun w' => w'.cell? ⟨w.heap.size, 0, none⟩ = some (.bool ba) ∧ w'.cell? ⟨w.heap.size, 1, none⟩ = some (.slice Aa na ca) ∧ w'.cell? ⟨w.heap.size, 2, none⟩ = some (.slice Ba ma da) ∧ w'.cell? ⟨w.heap.size + 1, 0, none⟩ = some (.bool bp) ∧ w'.cell? ⟨w.heap.size + 1, 1, none⟩ = some (.slice Ap np cp) ∧ w'.cell? ⟨w.heap.size + 1, 2, none⟩ = some (.slice Bp mp dp))
      (first | with_reducible exact HS.out _ hs | (with_reducible refine HS.out _ ?_; repeat (first | with_reducible exact hs | with_reducible refine Bw.drew ?_ | with_reducible refine Bw.alloc ?_ _ | with_reducible refine Bw.set ?_ _ (by first | omega | (simp; done) | (simp; omega)) _)))
      (first
        | (go_at_call 15; (first | (with_reducible refine (rqnorm_q ha.drew ?_ ?_).mono ?_) | (with_reducible refine (rqnorm_q (ha.below (below_alloc _ _)).drew ?_ ?_).mono ?_) | (with_reducible refine (rqnorm_q ((ha.below (below_alloc _ _)).below (below_alloc _ _)).drew ?_ ?_).mono ?_)); omega; omega; rintro e w70 ⟨b1, A1, n1, c1, B1, m1, d1, rfl, z1, bb⟩; (first | have hp := hp.drew.below bb | have hp := (hp.below (below_alloc _ _)).drew.below bb | have hp := ((hp.below (below_alloc _ _)).below (below_alloc _ _)).drew.below bb); (first | have hs := hs.drew.up bb | have hs := (hs.alloc _).drew.up bb | have hs := ((hs.alloc _).alloc _).drew.up bb); have z_0 := hs.2; (first | (have p0_0 := (((Rq.new _ (W1.heap.size) (by first | rfl | simp)).below (below_alloc _ _))).drew.below bb; have p0_1 := ((Rq.new _ (W1.heap.size + 1) (by first | rfl | simp))).drew.below bb) | (have p0_0 := ((Rq.new _ (W1.heap.size) (by first | rfl | simp))).drew.below bb) | skip); (try obtain ⟨p0_0_a, p0_0_b, p0_0_c⟩ := p0_0.apart); (try obtain ⟨p0_1_a, p0_1_b, p0_1_c⟩ := p0_1.apart); clear bb ha)
        | (go_at_call 15; (first | (with_reducible refine (rqnorm_q hp ?_ ?_).mono ?_) | (with_reducible refine (rqnorm_q (hp.below (below_alloc _ _)) ?_ ?_).mono ?_) | (with_reducible refine (rqnorm_q ((hp.below (below_alloc _ _)).below (below_alloc _ _)) ?_ ?_).mono ?_)); omega; omega; rintro e w71 ⟨b2, A2, n2, c2, B2, m2, d2, rfl, z2, bb⟩; (first | have z1 := z1.below bb | have z1 := (z1.below (below_alloc _ _)).below bb | have z1 := ((z1.below (below_alloc _ _)).below (below_alloc _ _)).below bb); (first | have hs := hs.up bb | have hs := (hs.alloc _).up bb | have hs := ((hs.alloc _).alloc _).up bb); have z_1 := hs.2; (try (first | have p0_0 := p0_0.below bb | have p0_0 := (p0_0.below (below_alloc _ _)).below bb | have p0_0 := ((p0_0.below (below_alloc _ _)).below (below_alloc _ _)).below bb)); (try (first | have p0_1 := p0_1.below bb | have p0_1 := (p0_1.below (below_alloc _ _)).below bb | have p0_1 := ((p0_1.below (below_alloc _ _)).below (below_alloc _ _)).below bb)); (first | (have p1_0 := (((Rq.new _ (w70.heap.size) (by first | rfl | simp)).below (below_alloc _ _))).below bb; have p1_1 := ((Rq.new _ (w70.heap.size + 1) (by first | rfl | simp))).below bb) | (have p1_0 := ((Rq.new _ (w70.heap.size) (by first | rfl | simp))).below bb) | skip); (try obtain ⟨p0_0_a, p0_0_b, p0_0_c⟩ := p0_0.apart); (try obtain ⟨p0_1_a, p0_1_b, p0_1_c⟩ := p0_1.apart); (try obtain ⟨p1_0_a, p1_0_b, p1_0_c⟩ := p1_0.apart); (try obtain ⟨p1_1_a, p1_1_b, p1_1_c⟩ := p1_1.apart); (try (have p0_0_0 := p0_0.1; have p0_0_1 := p0_0.2.1; have p0_0_2 := p0_0.2.2.1; have p0_0_3 := p0_0.2.2.2.1; have p0_0_4 := p0_0.2.2.2.2.1; have p0_0_5 := p0_0.2.2.2.2.2)); (try (have p0_1_0 := p0_1.1; have p0_1_1 := p0_1.2.1; have p0_1_2 := p0_1.2.2.1; have p0_1_3 := p0_1.2.2.2.1; have p0_1_4 := p0_1.2.2.2.2.1; have p0_1_5 := p0_1.2.2.2.2.2)); (try (have p1_0_0 := p1_0.1; have p1_0_1 := p1_0.2.1; have p1_0_2 := p1_0.2.2.1; have p1_0_3 := p1_0.2.2.2.1; have p1_0_4 := p1_0.2.2.2.2.1; have p1_0_5 := p1_0.2.2.2.2.2)); (try (have p1_1_0 := p1_1.1; have p1_1_1 := p1_1.2.1; have p1_1_2 := p1_1.2.2.1; have p1_1_3 := p1_1.2.2.2.1; have p1_1_4 := p1_1.2.2.2.2.1; have p1_1_5 := p1_1.2.2.2.2.2)); clear bb hp))
    all_goals
      go_wp2_with fail
      go_meet
      refine ⟨_, b1, A1, n1, c1, B1, m1, d1, _, b2, A2, n2, c2, B2, m2, d2, rfl, rfl, ?_, ?_, ?_, ?_, ?_, ?_, ?_⟩
      all_goals
        repeat' (first | with_reducible assumption | (with_reducible exact Bq.new _ _ (by simp) _ _ _) | (with_reducible exact Bx.new _ _ (by simp) _ _) | (with_reducible refine Bq.later ?_ _) | (with_reducible refine Bx.later ?_ _) | (with_reducible refine Rq.written ?_ _ _ _) | (with_reducible refine Rx.written ?_ _ _) | (with_reducible refine Bq.ret3 ?_ (by omega) _ _ _) | (with_reducible refine Bq.ret ?_ (by omega) _ _) | (with_reducible refine Bx.ret3 ?_ (by omega) _ _ _) | (with_reducible refine Bx.ret ?_ (by omega) _ _) | (with_reducible refine Qz.later ?_ _) | (with_reducible refine Qz.ret3 ?_ ?_ _ _ _) | (with_reducible refine Qz.ret ?_ ?_ _ _) | (with_reducible refine Qv.later ?_ _) | (with_reducible refine Qv.ret3 ?_ ?_ _ _ _) | (with_reducible refine Qv.ret ?_ ?_ _ _) | (with_reducible refine Iz.later ?_ _) | (with_reducible refine Iz.ret3 ?_ ?_ _ _ _) | (with_reducible refine Iz.ret ?_ ?_ _ _) | (with_reducible refine Rq.ret3 ?_ (by omega) _ _ _) | (with_reducible refine Rx.ret ?_ (by omega) _ _) | (with_reducible refine Bw.alloc ?_ _) | (with_reducible refine Bw.ret3 ?_ (by omega) _ _ _) | (with_reducible refine Bw.ret ?_ (by omega) _ _) | omega)
  case rest =>
    obtain ⟨g1, b1, A1, n1, c1, B1, m1, d1, g2, b2, A2, n2, c2, B2, m2, d2, rfl, rfl, k1, k2, z1, z2, l1, l2, hw⟩ := hcut
    have ka := hw.bq ka (by omega)
    have kp := hw.bq kp (by omega)
    have B0 := B0.trans (hw.1.mono B0.size)
    clear HS
    clear hw
    have i1 := z1.parts.1
    have d1' := z1.parts.2
    have i2 := z2.parts.1
    have d2' := z2.parts.2
    go_wp2_with fail
    have ka := ka.drew
    have kp := kp.drew
    have k1 := k1.drew
    have k2 := k2.drew
    have z1 := z1.drew
    have z2 := z2.drew
    have i1 := i1.drew
    have d1' := d1'.drew
    have i2 := i2.drew
    have d2' := d2'.drew
    have B0 := b_drew B0
    go_region_held3 (fun w' => w'.cell? ⟨w.heap.size, 0, none⟩ = some (.bool ba) ∧ w'.cell? ⟨w.heap.size, 1, none⟩ = some (.slice Aa na ca) ∧ w'.cell? ⟨w.heap.size, 2, none⟩ = some (.slice Ba ma da) ∧ w'.cell? ⟨w.heap.size + 1, 0, none⟩ = some (.bool bp) ∧ w'.cell? ⟨w.heap.size + 1, 1, none⟩ = some (.slice Ap np cp) ∧ w'.cell? ⟨w.heap.size + 1, 2, none⟩ = some (.slice Bp mp dp) ∧ w'.cell? ⟨g1, 0, none⟩ = some (.bool b1) ∧ w'.cell? ⟨g1, 1, none⟩ = some (.slice A1 n1 c1) ∧ w'.cell? ⟨g1, 2, none⟩ = some (.slice B1 m1 d1) ∧ w'.cell? ⟨g2, 0, none⟩ = some (.bool b2) ∧ w'.cell? ⟨g2, 1, none⟩ = some (.slice A2 n2 c2) ∧ w'.cell? ⟨g2, 2, none⟩ = some (.slice B2 m2 d2)) (first | with_reducible exact ⟨ka.c0, ka.c1, ka.c2, kp.c0, kp.c1, kp.c2, k1.c0, k1.c1, k1.c2, k2.c0, k2.c1, k2.c2⟩)
      (first
        | (go_at_call 45; (with_reducible refine (rimul_i i1.iv d2'.iv0 ?_ ?_).mono ?_); omega; omega; rintro e w1 ⟨v5, rfl, z5, bb⟩; have ka := ka.below bb; have kp := kp.below bb; have k1 := k1.below bb; have k2 := k2.below bb; have z1 := z1.below bb; have z2 := z2.below bb; have i1 := i1.below bb; have d1' := d1'.below bb; have i2 := i2.below bb; have d2' := d2'.below bb; have B0 := B0.trans (bb.mono B0.size); clear bb; obtain ⟨b5, A5, n5, c5, rfl, z5⟩ := z5.cells)
        | (go_at_call 45; (with_reducible refine (rimul_i i2.iv d1'.iv0 ?_ ?_).mono ?_); omega; omega; rintro e w2 ⟨v6, rfl, z6, bb⟩; have ka := ka.below bb; have kp := kp.below bb; have k1 := k1.below bb; have k2 := k2.below bb; have z1 := z1.below bb; have z2 := z2.below bb; have i1 := i1.below bb; have d1' := d1'.below bb; have i2 := i2.below bb; have d2' := d2'.below bb; have z5 := z5.below bb; have B0 := B0.trans (bb.mono B0.size); clear bb; obtain ⟨b6, A6, n6, c6, rfl, z6⟩ := z6.cells)
        | (go_at_call 44; (with_reducible refine (ricmp_i z5.iv z6.iv ?_ ?_ _ HO.out).mono ?_); omega; omega; rintro e w3 ⟨rfl, bb⟩; have ka := ka.below bb; have kp := kp.below bb; have k1 := k1.below bb; have k2 := k2.below bb; have z1 := z1.below bb; have z2 := z2.below bb; have i1 := i1.below bb; have d1' := d1'.below bb; have i2 := i2.below bb; have d2' := d2'.below bb; have z5 := z5.below bb; have z6 := z6.below bb; have B0 := B0.trans (bb.mono B0.size); clear bb))
    go_wp2
    go_ret
    exact ⟨rfl, B0⟩
theorem rmul_e {w : World} {va vb : Value} {a b k j : Nat} (ha : Nm w va a k) (hb : Nm w vb b j) (hk : k ≤ 1000) (hj : j ≤ 1000) : Calls Tryz.prog 41 #[va, vb] w (NEnd (a * b) (k + j) w) := (rmul_n ha hb hk hj).mono fun _ _ h => h.fin
theorem radd_e {w : World} {va vb : Value} {a b k j : Nat} (ha : Nm w va a k) (hb : Nm w vb b j) (hk : k ≤ 1000) (hj : j ≤ 1000) : Calls Tryz.prog 64 #[va, vb] w (NEnd (a + b) (max k j + 1) w) := (radd_n ha hb hk hj).mono fun _ _ h => h.fin
theorem ridiv_e {w : World} {v u : Value} {z y : Int} {k j : Nat} (h : Iv w v z k) (hu : Iv w u y j) (hk : k ≤ 100) (hj : j ≤ 100) (hy : y ≠ 0) : Calls Tryz.prog 58 #[v, u] w (IDEnd (z / y) (z % y) (k + 3) j w) :=
  (ridiv_i h hu hk hj).mono fun e w' hd => by unfold DEnd at hd; rwa [if_neg hy] at hd
set_option maxRecDepth 20000 in
set_option maxHeartbeats 2000000 in
theorem rqof_p (a b : Int) (ha : -9223372036854775808 ≤ a) (ha' : a < 9223372036854775808) (hb : -9223372036854775808 ≤ b) (hb' : b < 9223372036854775808) (w : World) (h0 : b ≠ 0) : Calls Tryz.prog 25 #[.int .i64 a, .int .i64 b] w (QbEnd ((a : Rat) / (b : Rat)) 2 2 w) := by
  have hb0 : (b == 0) = false := by simpa using h0
  have H0 := Lib.hid h0
  clear h0
  have HA := Lib.hid ha
  clear ha
  have HA1 := Lib.hid ha'
  clear ha'
  have HB := Lib.hid hb
  clear hb
  have HB1 := Lib.hid hb'
  clear hb'
  have B0 := below_a1 w (.cells #[.bool false, .slice none 0 0, .slice none 0 0] 27)
  have kr := (Rq.new w (w.heap.size) (by simp))
  go_enter Tryz.func25, Tryz.ntmps25
  have kr_0 := kr.1
  have kr_1 := kr.2.1
  have kr_2 := kr.2.2.1
  have kr_3 := kr.2.2.2.1
  have kr_4 := kr.2.2.2.2.1
  have kr_5 := kr.2.2.2.2.2
  go_wp2_with fail
  refine (riof_i a HA.out HA1.out _).mono ?_
  clear kr_0 kr_1 kr_2 kr_3 kr_4 kr_5
  rintro e w1 ⟨v1, rfl, z1, bb⟩
  have kr := kr.below bb
  have B0 := B0.trans (bb.mono B0.size)
  clear bb
  obtain ⟨b1, A1, n1, c1, rfl, z1⟩ := z1.cells
  have kr_0 := kr.1
  have kr_1 := kr.2.1
  have kr_2 := kr.2.2.1
  have kr_3 := kr.2.2.2.1
  have kr_4 := kr.2.2.2.2.1
  have kr_5 := kr.2.2.2.2.2
  go_wp2_with fail
  refine (riof_i b HB.out HB1.out _).mono ?_
  clear kr_0 kr_1 kr_2 kr_3 kr_4 kr_5
  rintro e w2 ⟨v2, rfl, z2, bb⟩
  have kr := kr.below bb
  have z1 := z1.below bb
  have B0 := B0.trans (bb.mono B0.size)
  clear bb
  obtain ⟨b2, A2, n2, c2, rfl, z2⟩ := z2.cells
  have lkr_w2 := kr.apart.1
  have kr := kr.below (below_alloc w2 (.cells #[.bool b1, .slice A1 n1 c1] 25))
  have z1 := z1.below (below_alloc w2 (.cells #[.bool b1, .slice A1 n1 c1] 25))
  have z2 := z2.below (below_alloc w2 (.cells #[.bool b1, .slice A1 n1 c1] 25))
  have k1 := Bx.new w2 (w2.heap.size) (by simp) (.bool b1) (.slice A1 n1 c1)
  have B0 := B0.trans ((below_alloc w2 (.cells #[.bool b1, .slice A1 n1 c1] 25)).mono B0.size)
  have kr := kr.below (below_alloc (w2.alloc (.cells #[.bool b1, .slice A1 n1 c1] 25)) (.cells #[.bool b2, .slice A2 n2 c2] 25))
  have z1 := z1.below (below_alloc (w2.alloc (.cells #[.bool b1, .slice A1 n1 c1] 25)) (.cells #[.bool b2, .slice A2 n2 c2] 25))
  have z2 := z2.below (below_alloc (w2.alloc (.cells #[.bool b1, .slice A1 n1 c1] 25)) (.cells #[.bool b2, .slice A2 n2 c2] 25))
  have k1 := k1.below (below_alloc (w2.alloc (.cells #[.bool b1, .slice A1 n1 c1] 25)) (.cells #[.bool b2, .slice A2 n2 c2] 25))
  have k2 := Bx.new (w2.alloc (.cells #[.bool b1, .slice A1 n1 c1] 25)) (w2.heap.size + 1) (by simp) (.bool b2) (.slice A2 n2 c2)
  have B0 := B0.trans ((below_alloc (w2.alloc (.cells #[.bool b1, .slice A1 n1 c1] 25)) (.cells #[.bool b2, .slice A2 n2 c2] 25)).mono B0.size)
  obtain ⟨p1, n1', e1, _⟩ := z1.parts
  obtain ⟨p2, n2', e2, _⟩ := z2.parts
  have hp : p2 ≠ 0 := by rintro rfl; exact H0.out (by rw [e2, sgn_zero])
  have hx : mkRat (sgn (!(b1 == b2)) p1) p2 = (a : Rat) / (b : Rat) := by rw [e1, e2]; exact RatN.red_eq b1 b2 p1 p2 hp
  have HP := Lib.hid hp
  have HX := Lib.hid hx
  clear e1 e2 hp hx z1 z2
  have k1_0 := k1.c0
  have k1_1 := k1.c1
  have k2_0 := k2.c0
  have k2_1 := k2.c1
  have kr_0 := kr.1
  have kr_1 := kr.2.1
  have kr_2 := kr.2.2.1
  have kr_3 := kr.2.2.2.1
  have kr_4 := kr.2.2.2.2.1
  have kr_5 := kr.2.2.2.2.2
  go_wp2_with fail
  refine (rreduce_q (!(b1 == b2)) n1'.nm n2'.nm (by omega) (by omega) HP.out _ HX.out).mono ?_
  clear k1_0 k1_1 k2_0 k2_1 kr_0 kr_1 kr_2 kr_3 kr_4 kr_5
  rintro e w3 ⟨br, Ar, nr, cr, Br, mr, dr, rfl, zr, bb⟩
  have kr := kr.below bb
  have k1 := k1.below bb
  have k2 := k2.below bb
  have n1' := n1'.below bb
  have n2' := n2'.below bb
  have B0 := B0.trans (bb.mono B0.size)
  clear bb
  have k1_0 := k1.c0
  have k1_1 := k1.c1
  have k2_0 := k2.c0
  have k2_1 := k2.c1
  have kr_0 := kr.1
  have kr_1 := kr.2.1
  have kr_2 := kr.2.2.1
  have kr_3 := kr.2.2.2.1
  have kr_4 := kr.2.2.2.2.1
  have kr_5 := kr.2.2.2.2.2
  go_wp2
  refine bodyPost_ret (v := .tuple #[.agg #[.bool br, .slice Ar nr cr, .slice Br mr dr], .bool true]) (by simp [results, Tryz.results25, go_sem, kr_0, kr_1, kr_2]) rfl ⟨_, _, _, _, _, _, _, rfl, zr.ret3 kr _ _ _, below_ret3 B0 (by omega) _ _ _⟩
set_option maxRecDepth 20000 in
set_option maxHeartbeats 2000000 in
theorem rqneg_q {w : World} {va : Value} {x : Rat} {k j : Nat} (ha : Qv w va x k j) (hk : k ≤ 90) (hj : j ≤ 90) : Calls Tryz.prog 17 #[va] w (QEnd (-x) (max k 2) (max j 2) w) := by
  obtain ⟨ba, Aa, na, ca, Ba, ma, da, rfl, _, _, _⟩ := ha.named
  have B0 := below_a2 w (.cells #[.bool ba, .slice Aa na ca, .slice Ba ma da] 27) (.cells #[.bool false, .slice none 0 0, .slice none 0 0] 27)
  have ha := ha.below B0
  have ka := ((Bq.new w (w.heap.size) (by simp) (.bool ba) (.slice Aa na ca) (.slice Ba ma da)).below (below_alloc (w.alloc (.cells #[.bool ba, .slice Aa na ca, .slice Ba ma da] 27)) (.cells #[.bool false, .slice none 0 0, .slice none 0 0] 27)))
  have kr := (Rq.new (w.alloc (.cells #[.bool ba, .slice Aa na ca, .slice Ba ma da] 27)) (w.heap.size + 1) (by simp))
  go_enter Tryz.func17, Tryz.ntmps17
  have ka_0 := ka.c0
  have ka_1 := ka.c1
  have ka_2 := ka.c2
  have kr_0 := kr.1
  have kr_1 := kr.2.1
  have kr_2 := kr.2.2.1
  have kr_3 := kr.2.2.2.1
  have kr_4 := kr.2.2.2.2.1
  have kr_5 := kr.2.2.2.2.2
  go_wp2_with fail
  refine (rqnorm_q ha (by omega) (by omega)).mono ?_
  clear ka_0 ka_1 ka_2 kr_0 kr_1 kr_2 kr_3 kr_4 kr_5
  rintro e w1 ⟨b1, A1, n1, c1, B1, m1, d1, rfl, z1, bb⟩
  have ha := ha.below bb
  have ka := ka.below bb
  have kr := kr.below bb
  have B0 := B0.trans (bb.mono B0.size)
  clear bb
  have lkr_w1 := kr.apart.1
  have kr := kr.below (below_alloc w1 (.cells #[.bool b1, .slice A1 n1 c1, .slice B1 m1 d1] 27))
  have z1 := z1.below (below_alloc w1 (.cells #[.bool b1, .slice A1 n1 c1, .slice B1 m1 d1] 27))
  have k1 := Bq.new w1 (w1.heap.size) (by simp) (.bool b1) (.slice A1 n1 c1) (.slice B1 m1 d1)
  have B0 := B0.trans ((below_alloc w1 (.cells #[.bool b1, .slice A1 n1 c1, .slice B1 m1 d1] 27)).mono B0.size)
  have i1 := z1.parts.1
  have d1' := z1.parts.2
  go_wp2_with fail
  have kr := kr.drew
  have z1 := z1.drew
  have k1 := k1.drew
  have i1 := i1.drew
  have d1' := d1'.drew
  have B0 := b_drew B0
  go_region_held3 (fun w' => w'.cell? ⟨w1.heap.size, 0, none⟩ = some (.bool b1) ∧ w'.cell? ⟨w1.heap.size, 1, none⟩ = some (.slice A1 n1 c1) ∧ w'.cell? ⟨w1.heap.size, 2, none⟩ = some (.slice B1 m1 d1)) (first | with_reducible exact ⟨k1.c0, k1.c1, k1.c2⟩ | with_reducible exact ⟨(k1.ret3 (r := w.heap.size + 1) (by omega) _ _ _).c0, (k1.ret3 (r := w.heap.size + 1) (by omega) _ _ _).c1, (k1.ret3 (r := w.heap.size + 1) (by omega) _ _ _).c2⟩)
    (first
      | (go_at_call 50; (with_reducible refine (rneg_i i1.iv ?_).mono ?_); omega; rintro e w2 ⟨v5, rfl, z5, bb⟩; have kr := kr.below bb; have z1 := z1.below bb; have k1 := k1.below bb; have i1 := i1.below bb; have d1' := d1'.below bb; have B0 := B0.trans (bb.mono B0.size); clear bb; obtain ⟨b5, A5, n5, c5, rfl, z5⟩ := z5.cells; have k1_0 := k1.c0; have k1_1 := k1.c1; have k1_2 := k1.c2; have kr_0 := kr.1; have kr_1 := kr.2.1; have kr_2 := kr.2.2.1; have kr_3 := kr.2.2.2.1; have kr_4 := kr.2.2.2.2.1; have kr_5 := kr.2.2.2.2.2))
  go_wp2
  refine bodyPost_ret (v := .agg #[.bool b5, .slice A5 n5 c5, .slice B1 m1 d1]) (by simp [results, Tryz.results17, go_sem, kr_0, kr_1, kr_2]) rfl ⟨_, _, _, _, _, _, _, rfl, Qz.mk (z5.ret3 kr _ _ _) (d1'.ret3 kr _ _ _) (RatN.q_neg x).1.symm (RatN.q_neg x).2.symm, below_ret3 B0 (by omega) _ _ _⟩
set_option maxRecDepth 20000 in
set_option maxHeartbeats 8000000 in
theorem rqadd_q {w : World} {va vp : Value} {x y : Rat} {k j k' j' : Nat} (ha : Qv w va x k j) (hp : Qv w vp y k' j') (h1 : k ≤ 20) (h2 : j ≤ 20) (h3 : k' ≤ 20) (h4 : j' ≤ 20) : Calls Tryz.prog 19 #[va, vp] w (QEnd (x + y) (max (max k 2 + max j' 2) (max k' 2 + max j 2) + 1) (max j 2 + max j' 2) w) := by
  obtain ⟨ba, Aa, na, ca, Ba, ma, da, rfl, _, _, _⟩ := ha.named
  obtain ⟨bp, Ap, np, cp, Bp, mp, dp, rfl, _, _, _⟩ := hp.named
  have B0 := below_a3 w (.cells #[.bool ba, .slice Aa na ca, .slice Ba ma da] 27) (.cells #[.bool bp, .slice Ap np cp, .slice Bp mp dp] 27) (.cells #[.bool false, .slice none 0 0, .slice none 0 0] 27)
  have ha := ha.below B0
  have hp := hp.below B0
  have ka := (((Bq.new w (w.heap.size) (by simp) (.bool ba) (.slice Aa na ca) (.slice Ba ma da)).below (below_alloc (w.alloc (.cells #[.bool ba, .slice Aa na ca, .slice Ba ma da] 27)) (.cells #[.bool bp, .slice Ap np cp, .slice Bp mp dp] 27))).below (below_alloc ((w.alloc (.cells #[.bool ba, .slice Aa na ca, .slice Ba ma da] 27)).alloc (.cells #[.bool bp, .slice Ap np cp, .slice Bp mp dp] 27)) (.cells #[.bool false, .slice none 0 0, .slice none 0 0] 27)))
  have kp := ((Bq.new (w.alloc (.cells #[.bool ba, .slice Aa na ca, .slice Ba ma da] 27)) (w.heap.size + 1) (by simp) (.bool bp) (.slice Ap np cp) (.slice Bp mp dp)).below (below_alloc ((w.alloc (.cells #[.bool ba, .slice Aa na ca, .slice Ba ma da] 27)).alloc (.cells #[.bool bp, .slice Ap np cp, .slice Bp mp dp] 27)) (.cells #[.bool false, .slice none 0 0, .slice none 0 0] 27)))
  have kr := (Rq.new ((w.alloc (.cells #[.bool ba, .slice Aa na ca, .slice Ba ma da] 27)).alloc (.cells #[.bool bp, .slice Ap np cp, .slice Bp mp dp] 27)) (w.heap.size + 1 + 1) (by simp))
  go_enter Tryz.func19, Tryz.ntmps19
  go_upto_region 1 with fail
  obtain ⟨W1, hW⟩ : ∃ W0, (((w.alloc (.cells #[.bool ba, .slice Aa na ca, .slice Ba ma da] 27)).alloc (.cells #[.bool bp, .slice Ap np cp, .slice Bp mp dp] 27)).alloc (.cells #[.bool false, .slice none 0 0, .slice none 0 0] 27)) = W0 := ⟨_, rfl⟩
  rw [hW] at ha hp ka kp kr B0 ⊢
  clear hW
  have lka := ka.lt
  have lkp := kp.lt
  have lkr := kr.apart.1
  have hs : Bw (W1.heap.size) W1 W1 := ⟨Below.refl _ _, Nat.le_refl _⟩
  have HS : Hid (∀ w', Bw (W1.heap.size) W1 w' → w'.cell? ⟨w.heap.size, 0, none⟩ = some (.bool ba) ∧ w'.cell? ⟨w.heap.size, 1, none⟩ = some (.slice Aa na ca) ∧ w'.cell? ⟨w.heap.size, 2, none⟩ = some (.slice Ba ma da) ∧ w'.cell? ⟨w.heap.size + 1, 0, none⟩ = some (.bool bp) ∧ w'.cell? ⟨w.heap.size + 1, 1, none⟩ = some (.slice Ap np cp) ∧ w'.cell? ⟨w.heap.size + 1, 2, none⟩ = some (.slice Bp mp dp)) := by
    intro w' hb
    have e0 := hb.bq ka (by omega)
    have e1 := hb.bq kp (by omega)
    exact ⟨e0.c0, e0.c1, e0.c2, e1.c0, e1.c1, e1.c2⟩
  go_cut [5, 6] (fun s5 s6 wx => TwoQ (W1.heap.size) W1 x y (max k 2) (max j 2) (max k' 2) (max j' 2) s5 s6 wx)
  case first =>
    clear ka kp
    go_region_held3 (fun w' => w'.cell? ⟨w.heap.size, 0, none⟩ = some (.bool ba) ∧ w'.cell? ⟨w.heap.size, 1, none⟩ = some (.slice Aa na ca) ∧ w'.cell? ⟨w.heap.size, 2, none⟩ = some (.slice Ba ma da) ∧ w'.cell? ⟨w.heap.size + 1, 0, none⟩ = some (.bool bp) ∧ w'.cell? ⟨w.heap.size + 1, 1, none⟩ = some (.slice Ap np cp) ∧ w'.cell? ⟨w.heap.size + 1, 2, none⟩ = some (.slice Bp mp dp))
      (first | with_reducible exact HS.out _ hs | (with_reducible refine HS.out _ ?_; repeat (first | with_reducible exact hs | with_reducible refine Bw.drew ?_ | with_reducible refine Bw.alloc ?_ _ | with_reducible refine Bw.set ?_ _ (by first | omega | (simp; done) | (simp; omega)) _)))
      (first
        | (go_at_call 15; (first | (with_reducible refine (rqnorm_q ha.drew ?_ ?_).mono ?_) | (with_reducible refine (rqnorm_q (ha.below (below_alloc _ _)).drew ?_ ?_).mono ?_) | (with_reducible refine (rqnorm_q ((ha.below (below_alloc _ _)).below (below_alloc _ _)).drew ?_ ?_).mono ?_)); omega; omega; rintro e w70 ⟨b1, A1, n1, c1, B1, m1, d1, rfl, z1, bb⟩; (first | have hp := hp.drew.below bb | have hp := (hp.below (below_alloc _ _)).drew.below bb | have hp := ((hp.below (below_alloc _ _)).below (below_alloc _ _)).drew.below bb); (first | have hs := hs.drew.up bb | have hs := (hs.alloc _).drew.up bb | have hs := ((hs.alloc _).alloc _).drew.up bb); have z_0 := hs.2; (first | (have p0_0 := (((Rq.new _ (W1.heap.size) (by first | rfl | simp)).below (below_alloc _ _))).drew.below bb; have p0_1 := ((Rq.new _ (W1.heap.size + 1) (by first | rfl | simp))).drew.below bb) | (have p0_0 := ((Rq.new _ (W1.heap.size) (by first | rfl | simp))).drew.below bb) | skip); (try obtain ⟨p0_0_a, p0_0_b, p0_0_c⟩ := p0_0.apart); (try obtain ⟨p0_1_a, p0_1_b, p0_1_c⟩ := p0_1.apart); clear bb ha)
        | (go_at_call 15; (first | (with_reducible refine (rqnorm_q hp ?_ ?_).mono ?_) | (with_reducible refine (rqnorm_q (hp.below (below_alloc _ _)) ?_ ?_).mono ?_) | (with_reducible refine (rqnorm_q ((hp.below (below_alloc _ _)).below (below_alloc _ _)) ?_ ?_).mono ?_)); omega; omega; rintro e w71 ⟨b2, A2, n2, c2, B2, m2, d2, rfl, z2, bb⟩; (first | have z1 := z1.below bb | have z1 := (z1.below (below_alloc _ _)).below bb | have z1 := ((z1.below (below_alloc _ _)).below (below_alloc _ _)).below bb); (first | have hs := hs.up bb | have hs := (hs.alloc _).up bb | have hs := ((hs.alloc _).alloc _).up bb); have z_1 := hs.2; (try (first | have p0_0 := p0_0.below bb | have p0_0 := (p0_0.below (below_alloc _ _)).below bb | have p0_0 := ((p0_0.below (below_alloc _ _)).below (below_alloc _ _)).below bb)); (try (first | have p0_1 := p0_1.below bb | have p0_1 := (p0_1.below (below_alloc _ _)).below bb | have p0_1 := ((p0_1.below (below_alloc _ _)).below (below_alloc _ _)).below bb)); (first | (have p1_0 := (((Rq.new _ (w70.heap.size) (by first | rfl | simp)).below (below_alloc _ _))).below bb; have p1_1 := ((Rq.new _ (w70.heap.size + 1) (by first | rfl | simp))).below bb) | (have p1_0 := ((Rq.new _ (w70.heap.size) (by first | rfl | simp))).below bb) | skip); (try obtain ⟨p0_0_a, p0_0_b, p0_0_c⟩ := p0_0.apart); (try obtain ⟨p0_1_a, p0_1_b, p0_1_c⟩ := p0_1.apart); (try obtain ⟨p1_0_a, p1_0_b, p1_0_c⟩ := p1_0.apart); (try obtain ⟨p1_1_a, p1_1_b, p1_1_c⟩ := p1_1.apart); (try (have p0_0_0 := p0_0.1; have p0_0_1 := p0_0.2.1; have p0_0_2 := p0_0.2.2.1; have p0_0_3 := p0_0.2.2.2.1; have p0_0_4 := p0_0.2.2.2.2.1; have p0_0_5 := p0_0.2.2.2.2.2)); (try (have p0_1_0 := p0_1.1; have p0_1_1 := p0_1.2.1; have p0_1_2 := p0_1.2.2.1; have p0_1_3 := p0_1.2.2.2.1; have p0_1_4 := p0_1.2.2.2.2.1; have p0_1_5 := p0_1.2.2.2.2.2)); (try (have p1_0_0 := p1_0.1; have p1_0_1 := p1_0.2.1; have p1_0_2 := p1_0.2.2.1; have p1_0_3 := p1_0.2.2.2.1; have p1_0_4 := p1_0.2.2.2.2.1; have p1_0_5 := p1_0.2.2.2.2.2)); (try (have p1_1_0 := p1_1.1; have p1_1_1 := p1_1.2.1; have p1_1_2 := p1_1.2.2.1; have p1_1_3 := p1_1.2.2.2.1; have p1_1_4 := p1_1.2.2.2.2.1; have p1_1_5 := p1_1.2.2.2.2.2)); clear bb hp))
    all_goals
      go_wp2_with fail
      go_meet
      refine ⟨_, b1, A1, n1, c1, B1, m1, d1, _, b2, A2, n2, c2, B2, m2, d2, rfl, rfl, ?_, ?_, ?_, ?_, ?_, ?_, ?_⟩
      all_goals
        repeat' (first | with_reducible assumption | (with_reducible exact Bq.new _ _ (by simp) _ _ _) | (with_reducible exact Bx.new _ _ (by simp) _ _) | (with_reducible refine Bq.later ?_ _) | (with_reducible refine Bx.later ?_ _) | (with_reducible refine Rq.written ?_ _ _ _) | (with_reducible refine Rx.written ?_ _ _) | (with_reducible refine Bq.ret3 ?_ (by omega) _ _ _) | (with_reducible refine Bq.ret ?_ (by omega) _ _) | (with_reducible refine Bx.ret3 ?_ (by omega) _ _ _) | (with_reducible refine Bx.ret ?_ (by omega) _ _) | (with_reducible refine Qz.later ?_ _) | (with_reducible refine Qz.ret3 ?_ ?_ _ _ _) | (with_reducible refine Qz.ret ?_ ?_ _ _) | (with_reducible refine Qv.later ?_ _) | (with_reducible refine Qv.ret3 ?_ ?_ _ _ _) | (with_reducible refine Qv.ret ?_ ?_ _ _) | (with_reducible refine Iz.later ?_ _) | (with_reducible refine Iz.ret3 ?_ ?_ _ _ _) | (with_reducible refine Iz.ret ?_ ?_ _ _) | (with_reducible refine Rq.ret3 ?_ (by omega) _ _ _) | (with_reducible refine Rx.ret ?_ (by omega) _ _) | (with_reducible refine Bw.alloc ?_ _) | (with_reducible refine Bw.ret3 ?_ (by omega) _ _ _) | (with_reducible refine Bw.ret ?_ (by omega) _ _) | omega)
  case rest =>
    obtain ⟨g1, b1, A1, n1, c1, B1, m1, d1, g2, b2, A2, n2, c2, B2, m2, d2, rfl, rfl, k1, k2, z1, z2, l1, l2, hw⟩ := hcut
    have ka := hw.bq ka (by omega)
    have kp := hw.bq kp (by omega)
    have kr := hw.rq kr (by omega)
    have B0 := B0.trans (hw.1.mono B0.size)
    clear HS
    clear hw
    have i1 := z1.parts.1
    have d1' := z1.parts.2
    have i2 := z2.parts.1
    have d2' := z2.parts.2
    go_upto_region 2 with fail
    obtain ⟨wx1, hW⟩ : ∃ W0, wc = W0 := ⟨_, rfl⟩
    rw [hW] at kr k1 k2 z1 z2 i1 d1' i2 d2' B0 ⊢
    clear hW
    have lk1 := k1.lt
    have lk2 := k2.lt
    have lkr := kr.apart.1
    have hs : Bw (wx1.heap.size) wx1 wx1 := ⟨Below.refl _ _, Nat.le_refl _⟩
    have HS : Hid (∀ w', Bw (wx1.heap.size) wx1 w' → w'.cell? ⟨g1, 0, none⟩ = some (.bool b1) ∧ w'.cell? ⟨g1, 1, none⟩ = some (.slice A1 n1 c1) ∧ w'.cell? ⟨g1, 2, none⟩ = some (.slice B1 m1 d1) ∧ w'.cell? ⟨g2, 0, none⟩ = some (.bool b2) ∧ w'.cell? ⟨g2, 1, none⟩ = some (.slice A2 n2 c2) ∧ w'.cell? ⟨g2, 2, none⟩ = some (.slice B2 m2 d2)) := by
      intro w' hb
      have e0 := hb.bq k1 (by omega)
      have e1 := hb.bq k2 (by omega)
      exact ⟨e0.c0, e0.c1, e0.c2, e1.c0, e1.c1, e1.c2⟩
    go_cut [7] (fun s7 wx => OneI (wx1.heap.size) wx1 (x.num * (y.den : Int) + y.num * (x.den : Int)) (max (max k 2 + max j' 2) (max k' 2 + max j 2) + 1) s7 wx ∧ Qz wx (.agg #[.bool b1, .slice A1 n1 c1, .slice B1 m1 d1]) x (max k 2) (max j 2) ∧ Qz wx (.agg #[.bool b2, .slice A2 n2 c2, .slice B2 m2 d2]) y (max k' 2) (max j' 2))
    case first =>
      clear k1 k2
      go_region_held3 (fun w' => w'.cell? ⟨g1, 0, none⟩ = some (.bool b1) ∧ w'.cell? ⟨g1, 1, none⟩ = some (.slice A1 n1 c1) ∧ w'.cell? ⟨g1, 2, none⟩ = some (.slice B1 m1 d1) ∧ w'.cell? ⟨g2, 0, none⟩ = some (.bool b2) ∧ w'.cell? ⟨g2, 1, none⟩ = some (.slice A2 n2 c2) ∧ w'.cell? ⟨g2, 2, none⟩ = some (.slice B2 m2 d2))
        (first | with_reducible exact HS.out _ hs | (with_reducible refine HS.out _ ?_; repeat (first | with_reducible exact hs | with_reducible refine Bw.drew ?_ | with_reducible refine Bw.alloc ?_ _ | with_reducible refine Bw.set ?_ _ (by first | omega | (simp; done) | (simp; omega)) _)))
        (first
          | (go_at_call 45; (first | (with_reducible refine (rimul_i i1.drew.iv d2'.drew.iv0 ?_ ?_).mono ?_) | (with_reducible refine (rimul_i (i1.below (below_alloc _ _)).drew.iv (d2'.below (below_alloc _ _)).drew.iv0 ?_ ?_).mono ?_)); omega; omega; rintro e w70 ⟨v5, rfl, z5, bb⟩; obtain ⟨b5, A5, n5, c5, rfl, z5⟩ := z5.cells; (first | have z1 := z1.drew.below bb | have z1 := (z1.below (below_alloc _ _)).drew.below bb); (first | have z2 := z2.drew.below bb | have z2 := (z2.below (below_alloc _ _)).drew.below bb); (first | have i1 := i1.drew.below bb | have i1 := (i1.below (below_alloc _ _)).drew.below bb); (first | have d1' := d1'.drew.below bb | have d1' := (d1'.below (below_alloc _ _)).drew.below bb); (first | have i2 := i2.drew.below bb | have i2 := (i2.below (below_alloc _ _)).drew.below bb); (first | have d2' := d2'.drew.below bb | have d2' := (d2'.below (below_alloc _ _)).drew.below bb); (first | have hs := hs.drew.up bb | have hs := (hs.alloc _).drew.up bb); have z_0 := hs.2; (first | (have p0_0 := ((Rx.new _ (wx1.heap.size) (by first | rfl | simp))).drew.below bb) | skip); (try obtain ⟨p0_0_a, p0_0_b, p0_0_c⟩ := p0_0.apart); clear bb)
          | (go_at_call 45; (first | (with_reducible refine (rimul_i i2.iv d1'.iv0 ?_ ?_).mono ?_) | (with_reducible refine (rimul_i (i2.below (below_alloc _ _)).iv (d1'.below (below_alloc _ _)).iv0 ?_ ?_).mono ?_)); omega; omega; rintro e w71 ⟨v6, rfl, z6, bb⟩; obtain ⟨b6, A6, n6, c6, rfl, z6⟩ := z6.cells; (first | have z1 := z1.below bb | have z1 := (z1.below (below_alloc _ _)).below bb); (first | have z2 := z2.below bb | have z2 := (z2.below (below_alloc _ _)).below bb); (first | have i1 := i1.below bb | have i1 := (i1.below (below_alloc _ _)).below bb); (first | have d1' := d1'.below bb | have d1' := (d1'.below (below_alloc _ _)).below bb); (first | have i2 := i2.below bb | have i2 := (i2.below (below_alloc _ _)).below bb); (first | have d2' := d2'.below bb | have d2' := (d2'.below (below_alloc _ _)).below bb); (first | have z5 := z5.below bb | have z5 := (z5.below (below_alloc _ _)).below bb); (first | have hs := hs.up bb | have hs := (hs.alloc _).up bb); have z_1 := hs.2; (try (first | have p0_0 := p0_0.below bb | have p0_0 := (p0_0.below (below_alloc _ _)).below bb)); (first | (have p1_0 := ((Rx.new _ (w70.heap.size) (by first | rfl | simp))).below bb) | skip); (try obtain ⟨p0_0_a, p0_0_b, p0_0_c⟩ := p0_0.apart); (try obtain ⟨p1_0_a, p1_0_b, p1_0_c⟩ := p1_0.apart); clear bb)
          | (go_at_call 53; (first | (with_reducible refine (riadd_i z5.iv z6.iv ?_ ?_).mono ?_) | (with_reducible refine (riadd_i (z5.below (below_alloc _ _)).iv (z6.below (below_alloc _ _)).iv ?_ ?_).mono ?_)); omega; omega; rintro e w72 ⟨v3, rfl, z3, bb⟩; obtain ⟨b3, A3, n3, c3, rfl, z3⟩ := z3.cells; (first | have z1 := z1.below bb | have z1 := (z1.below (below_alloc _ _)).below bb); (first | have z2 := z2.below bb | have z2 := (z2.below (below_alloc _ _)).below bb); (first | have i1 := i1.below bb | have i1 := (i1.below (below_alloc _ _)).below bb); (first | have d1' := d1'.below bb | have d1' := (d1'.below (below_alloc _ _)).below bb); (first | have i2 := i2.below bb | have i2 := (i2.below (below_alloc _ _)).below bb); (first | have d2' := d2'.below bb | have d2' := (d2'.below (below_alloc _ _)).below bb); (first | have z5 := z5.below bb | have z5 := (z5.below (below_alloc _ _)).below bb); (first | have z6 := z6.below bb | have z6 := (z6.below (below_alloc _ _)).below bb); (first | have hs := hs.up bb | have hs := (hs.alloc _).up bb); have z_2 := hs.2; (try (first | have p0_0 := p0_0.below bb | have p0_0 := (p0_0.below (below_alloc _ _)).below bb)); (try (first | have p1_0 := p1_0.below bb | have p1_0 := (p1_0.below (below_alloc _ _)).below bb)); (first | (have p2_0 := ((Rx.new _ (w71.heap.size) (by first | rfl | simp))).below bb) | skip); (try obtain ⟨p0_0_a, p0_0_b, p0_0_c⟩ := p0_0.apart); (try obtain ⟨p1_0_a, p1_0_b, p1_0_c⟩ := p1_0.apart); (try obtain ⟨p2_0_a, p2_0_b, p2_0_c⟩ := p2_0.apart); (try (have p0_0_0 := p0_0.1; have p0_0_1 := p0_0.2.1; have p0_0_2 := p0_0.2.2.1; have p0_0_3 := p0_0.2.2.2)); (try (have p1_0_0 := p1_0.1; have p1_0_1 := p1_0.2.1; have p1_0_2 := p1_0.2.2.1; have p1_0_3 := p1_0.2.2.2)); (try (have p2_0_0 := p2_0.1; have p2_0_1 := p2_0.2.1; have p2_0_2 := p2_0.2.2.1; have p2_0_3 := p2_0.2.2.2)); clear bb))
      all_goals
        go_wp2_with fail
        go_meet
        refine ⟨⟨_, b3, A3, n3, c3, rfl, ?_, ?_, ?_, ?_⟩, ?_, ?_⟩
        all_goals
          repeat' (first | with_reducible assumption | (with_reducible exact Bq.new _ _ (by simp) _ _ _) | (with_reducible exact Bx.new _ _ (by simp) _ _) | (with_reducible refine Bq.later ?_ _) | (with_reducible refine Bx.later ?_ _) | (with_reducible refine Rq.written ?_ _ _ _) | (with_reducible refine Rx.written ?_ _ _) | (with_reducible refine Bq.ret3 ?_ (by omega) _ _ _) | (with_reducible refine Bq.ret ?_ (by omega) _ _) | (with_reducible refine Bx.ret3 ?_ (by omega) _ _ _) | (with_reducible refine Bx.ret ?_ (by omega) _ _) | (with_reducible refine Qz.later ?_ _) | (with_reducible refine Qz.ret3 ?_ ?_ _ _ _) | (with_reducible refine Qz.ret ?_ ?_ _ _) | (with_reducible refine Qv.later ?_ _) | (with_reducible refine Qv.ret3 ?_ ?_ _ _ _) | (with_reducible refine Qv.ret ?_ ?_ _ _) | (with_reducible refine Iz.later ?_ _) | (with_reducible refine Iz.ret3 ?_ ?_ _ _ _) | (with_reducible refine Iz.ret ?_ ?_ _ _) | (with_reducible refine Rq.ret3 ?_ (by omega) _ _ _) | (with_reducible refine Rx.ret ?_ (by omega) _ _) | (with_reducible refine Bw.alloc ?_ _) | (with_reducible refine Bw.ret3 ?_ (by omega) _ _ _) | (with_reducible refine Bw.ret ?_ (by omega) _ _) | omega)
    case rest =>
      obtain ⟨⟨g3, b3, A3, n3, c3, rfl, k3, z3, l3, hw⟩, z1, z2⟩ := hcut
      have k1 := hw.bq k1 (by omega)
      have k2 := hw.bq k2 (by omega)
      have kr := hw.rq kr (by omega)
      have B0 := B0.trans (hw.1.mono B0.size)
      clear HS
      clear hw
      have d1' := z1.parts.2
      have d2' := z2.parts.2
      obtain ⟨p3, n3', e3, _⟩ := z3.parts
      have hx : mkRat (sgn b3 p3) (x.den * y.den) = x + y := by rw [← e3]; exact RatN.q_add x y
      have hd : x.den * y.den ≠ 0 := Nat.mul_ne_zero x.den_nz y.den_nz
      have HX := Lib.hid hx
      have HD := Lib.hid hd
      clear e3 hx hd z3
      go_wp2_with fail
      have z1 := z1.drew
      have z2 := z2.drew
      have k1 := k1.drew
      have k2 := k2.drew
      have kr := kr.drew
      have k3 := k3.drew
      have d1' := d1'.drew
      have d2' := d2'.drew
      have n3' := n3'.drew
      have B0 := b_drew B0
      go_region_held3 (fun w' => w'.cell? ⟨g1, 0, none⟩ = some (.bool b1) ∧ w'.cell? ⟨g1, 1, none⟩ = some (.slice A1 n1 c1) ∧ w'.cell? ⟨g1, 2, none⟩ = some (.slice B1 m1 d1) ∧ w'.cell? ⟨g2, 0, none⟩ = some (.bool b2) ∧ w'.cell? ⟨g2, 1, none⟩ = some (.slice A2 n2 c2) ∧ w'.cell? ⟨g2, 2, none⟩ = some (.slice B2 m2 d2) ∧ w'.cell? ⟨g3, 0, none⟩ = some (.bool b3) ∧ w'.cell? ⟨g3, 1, none⟩ = some (.slice A3 n3 c3)) (first | with_reducible exact ⟨k1.c0, k1.c1, k1.c2, k2.c0, k2.c1, k2.c2, k3.c0, k3.c1⟩ | with_reducible exact ⟨(k1.ret3 (r := w.heap.size + 1 + 1) (by omega) _ _ _).c0, (k1.ret3 (r := w.heap.size + 1 + 1) (by omega) _ _ _).c1, (k1.ret3 (r := w.heap.size + 1 + 1) (by omega) _ _ _).c2, (k2.ret3 (r := w.heap.size + 1 + 1) (by omega) _ _ _).c0, (k2.ret3 (r := w.heap.size + 1 + 1) (by omega) _ _ _).c1, (k2.ret3 (r := w.heap.size + 1 + 1) (by omega) _ _ _).c2, (k3.ret3 (r := w.heap.size + 1 + 1) (by omega) _ _ _).c0, (k3.ret3 (r := w.heap.size + 1 + 1) (by omega) _ _ _).c1⟩)
        (first
          | (go_at_call 41; (with_reducible refine (rmul_e d1'.nm d2'.nm ?_ ?_).mono ?_); omega; omega; rintro e w1 ⟨v5, rfl, z5, bb⟩; have z1 := z1.below bb; have z2 := z2.below bb; have k1 := k1.below bb; have k2 := k2.below bb; have kr := kr.below bb; have k3 := k3.below bb; have d1' := d1'.below bb; have d2' := d2'.below bb; have n3' := n3'.below bb; have B0 := B0.trans (bb.mono B0.size); clear bb; obtain ⟨A5, n5, c5, rfl, _, _⟩ := z5.nm.form)
          | (go_at_call 40; (with_reducible refine (rreduce_q b3 n3'.nm z5.nm ?_ ?_ HD.out _ HX.out).mono ?_); omega; omega; rintro e w2 ⟨br, Ar, nr, cr, Br, mr, dr, rfl, zr, bb⟩; have z1 := z1.below bb; have z2 := z2.below bb; have k1 := k1.below bb; have k2 := k2.below bb; have kr := kr.below bb; have k3 := k3.below bb; have d1' := d1'.below bb; have d2' := d2'.below bb; have n3' := n3'.below bb; have z5 := z5.below bb; have B0 := B0.trans (bb.mono B0.size); clear bb; have k1_0 := k1.c0; have k1_1 := k1.c1; have k1_2 := k1.c2; have k2_0 := k2.c0; have k2_1 := k2.c1; have k2_2 := k2.c2; have k3_0 := k3.c0; have k3_1 := k3.c1; have kr_0 := kr.1; have kr_1 := kr.2.1; have kr_2 := kr.2.2.1; have kr_3 := kr.2.2.2.1; have kr_4 := kr.2.2.2.2.1; have kr_5 := kr.2.2.2.2.2))
      go_wp2
      refine bodyPost_ret (v := .agg #[.bool br, .slice Ar nr cr, .slice Br mr dr]) (by simp [results, Tryz.results19, go_sem, kr_0, kr_1, kr_2]) rfl ⟨_, _, _, _, _, _, _, rfl, zr.ret3 kr _ _ _, below_ret3 B0 (by omega) _ _ _⟩
set_option maxRecDepth 20000 in
set_option maxHeartbeats 8000000 in
theorem rqsub_q {w : World} {va vp : Value} {x y : Rat} {k j k' j' : Nat} (ha : Qv w va x k j) (hp : Qv w vp y k' j') (h1 : k ≤ 20) (h2 : j ≤ 20) (h3 : k' ≤ 20) (h4 : j' ≤ 20) : Calls Tryz.prog 21 #[va, vp] w (QEnd (x - y) (max (max k 2 + max j' 2) (max k' 2 + max j 2) + 1) (max j 2 + max j' 2) w) := by
  obtain ⟨ba, Aa, na, ca, Ba, ma, da, rfl, _, _, _⟩ := ha.named
  obtain ⟨bp, Ap, np, cp, Bp, mp, dp, rfl, _, _, _⟩ := hp.named
  have hx : x + -y = x - y := by grind
  have HX := Lib.hid hx
  clear hx
  have B0 := below_a3 w (.cells #[.bool ba, .slice Aa na ca, .slice Ba ma da] 27) (.cells #[.bool bp, .slice Ap np cp, .slice Bp mp dp] 27) (.cells #[.bool false, .slice none 0 0, .slice none 0 0] 27)
  have ha := ha.below B0
  have hp := hp.below B0
  have ka := (((Bq.new w (w.heap.size) (by simp) (.bool ba) (.slice Aa na ca) (.slice Ba ma da)).below (below_alloc (w.alloc (.cells #[.bool ba, .slice Aa na ca, .slice Ba ma da] 27)) (.cells #[.bool bp, .slice Ap np cp, .slice Bp mp dp] 27))).below (below_alloc ((w.alloc (.cells #[.bool ba, .slice Aa na ca, .slice Ba ma da] 27)).alloc (.cells #[.bool bp, .slice Ap np cp, .slice Bp mp dp] 27)) (.cells #[.bool false, .slice none 0 0, .slice none 0 0] 27)))
  have kp := ((Bq.new (w.alloc (.cells #[.bool ba, .slice Aa na ca, .slice Ba ma da] 27)) (w.heap.size + 1) (by simp) (.bool bp) (.slice Ap np cp) (.slice Bp mp dp)).below (below_alloc ((w.alloc (.cells #[.bool ba, .slice Aa na ca, .slice Ba ma da] 27)).alloc (.cells #[.bool bp, .slice Ap np cp, .slice Bp mp dp] 27)) (.cells #[.bool false, .slice none 0 0, .slice none 0 0] 27)))
  have kr := (Rq.new ((w.alloc (.cells #[.bool ba, .slice Aa na ca, .slice Ba ma da] 27)).alloc (.cells #[.bool bp, .slice Ap np cp, .slice Bp mp dp] 27)) (w.heap.size + 1 + 1) (by simp))
  go_enter Tryz.func21, Tryz.ntmps21
  go_wp2_with fail
  have ha := ha.drew
  have hp := hp.drew
  have ka := ka.drew
  have kp := kp.drew
  have kr := kr.drew
  have B0 := b_drew B0
  go_region_held3 (fun w' => w'.cell? ⟨w.heap.size, 0, none⟩ = some (.bool ba) ∧ w'.cell? ⟨w.heap.size, 1, none⟩ = some (.slice Aa na ca) ∧ w'.cell? ⟨w.heap.size, 2, none⟩ = some (.slice Ba ma da) ∧ w'.cell? ⟨w.heap.size + 1, 0, none⟩ = some (.bool bp) ∧ w'.cell? ⟨w.heap.size + 1, 1, none⟩ = some (.slice Ap np cp) ∧ w'.cell? ⟨w.heap.size + 1, 2, none⟩ = some (.slice Bp mp dp)) (first | with_reducible exact ⟨ka.c0, ka.c1, ka.c2, kp.c0, kp.c1, kp.c2⟩ | with_reducible exact ⟨(ka.ret3 (r := w.heap.size + 1 + 1) (by omega) _ _ _).c0, (ka.ret3 (r := w.heap.size + 1 + 1) (by omega) _ _ _).c1, (ka.ret3 (r := w.heap.size + 1 + 1) (by omega) _ _ _).c2, (kp.ret3 (r := w.heap.size + 1 + 1) (by omega) _ _ _).c0, (kp.ret3 (r := w.heap.size + 1 + 1) (by omega) _ _ _).c1, (kp.ret3 (r := w.heap.size + 1 + 1) (by omega) _ _ _).c2⟩)
    (first
      | (go_at_call 17; (with_reducible refine (rqneg_q hp ?_ ?_).mono ?_); omega; omega; rintro e w1 ⟨b1, A1, n1, c1, B1, m1, d1, rfl, z1, bb⟩; have ha := ha.below bb; have hp := hp.below bb; have ka := ka.below bb; have kp := kp.below bb; have kr := kr.below bb; have B0 := B0.trans (bb.mono B0.size); clear bb)
      | (go_at_call 19; (with_reducible refine (rqadd_q ha z1.qv ?_ ?_ ?_ ?_).mono ?_); omega; omega; omega; omega; rintro e w2 ⟨br, Ar, nr, cr, Br, mr, dr, rfl, zr, bb⟩; have ha := ha.below bb; have hp := hp.below bb; have ka := ka.below bb; have kp := kp.below bb; have kr := kr.below bb; have z1 := z1.below bb; have B0 := B0.trans (bb.mono B0.size); clear bb; rw [HX.out] at zr; have zr := zr.wide (k' := max (max k 2 + max j' 2) (max k' 2 + max j 2) + 1) (j' := max j 2 + max j' 2) (by omega) (by omega); have ka_0 := ka.c0; have ka_1 := ka.c1; have ka_2 := ka.c2; have kp_0 := kp.c0; have kp_1 := kp.c1; have kp_2 := kp.c2; have kr_0 := kr.1; have kr_1 := kr.2.1; have kr_2 := kr.2.2.1; have kr_3 := kr.2.2.2.1; have kr_4 := kr.2.2.2.2.1; have kr_5 := kr.2.2.2.2.2))
  go_wp2
  refine bodyPost_ret (v := .agg #[.bool br, .slice Ar nr cr, .slice Br mr dr]) (by simp [results, Tryz.results21, go_sem, kr_0, kr_1, kr_2]) rfl ⟨_, _, _, _, _, _, _, rfl, zr.ret3 kr _ _ _, below_ret3 B0 (by omega) _ _ _⟩
set_option maxRecDepth 20000 in
set_option maxHeartbeats 8000000 in
theorem rqmul_q {w : World} {va vp : Value} {x y : Rat} {k j k' j' : Nat} (ha : Qv w va x k j) (hp : Qv w vp y k' j') (h1 : k ≤ 20) (h2 : j ≤ 20) (h3 : k' ≤ 20) (h4 : j' ≤ 20) : Calls Tryz.prog 23 #[va, vp] w (QEnd (x * y) (max k 2 + max k' 2) (max j 2 + max j' 2) w) := by
  obtain ⟨ba, Aa, na, ca, Ba, ma, da, rfl, _, _, _⟩ := ha.named
  obtain ⟨bp, Ap, np, cp, Bp, mp, dp, rfl, _, _, _⟩ := hp.named
  have B0 := below_a3 w (.cells #[.bool ba, .slice Aa na ca, .slice Ba ma da] 27) (.cells #[.bool bp, .slice Ap np cp, .slice Bp mp dp] 27) (.cells #[.bool false, .slice none 0 0, .slice none 0 0] 27)
  have ha := ha.below B0
  have hp := hp.below B0
  have ka := (((Bq.new w (w.heap.size) (by simp) (.bool ba) (.slice Aa na ca) (.slice Ba ma da)).below (below_alloc (w.alloc (.cells #[.bool ba, .slice Aa na ca, .slice Ba ma da] 27)) (.cells #[.bool bp, .slice Ap np cp, .slice Bp mp dp] 27))).below (below_alloc ((w.alloc (.cells #[.bool ba, .slice Aa na ca, .slice Ba ma da] 27)).alloc (.cells #[.bool bp, .slice Ap np cp, .slice Bp mp dp] 27)) (.cells #[.bool false, .slice none 0 0, .slice none 0 0] 27)))
  have kp := ((Bq.new (w.alloc (.cells #[.bool ba, .slice Aa na ca, .slice Ba ma da] 27)) (w.heap.size + 1) (by simp) (.bool bp) (.slice Ap np cp) (.slice Bp mp dp)).below (below_alloc ((w.alloc (.cells #[.bool ba, .slice Aa na ca, .slice Ba ma da] 27)).alloc (.cells #[.bool bp, .slice Ap np cp, .slice Bp mp dp] 27)) (.cells #[.bool false, .slice none 0 0, .slice none 0 0] 27)))
  have kr := (Rq.new ((w.alloc (.cells #[.bool ba, .slice Aa na ca, .slice Ba ma da] 27)).alloc (.cells #[.bool bp, .slice Ap np cp, .slice Bp mp dp] 27)) (w.heap.size + 1 + 1) (by simp))
  go_enter Tryz.func23, Tryz.ntmps23
  go_upto_region 1 with fail
  obtain ⟨W1, hW⟩ : ∃ W0, (((w.alloc (.cells #[.bool ba, .slice Aa na ca, .slice Ba ma da] 27)).alloc (.cells #[.bool bp, .slice Ap np cp, .slice Bp mp dp] 27)).alloc (.cells #[.bool false, .slice none 0 0, .slice none 0 0] 27)) = W0 := ⟨_, rfl⟩
  rw [hW] at ha hp ka kp kr B0 ⊢
  clear hW
  have lka := ka.lt
  have lkp := kp.lt
  have lkr := kr.apart.1
  have hs : Bw (W1.heap.size) W1 W1 := ⟨Below.refl _ _, Nat.le_refl _⟩
  have HS : Hid (∀ w', Bw (W1.heap.size) W1 w' → w'.cell? ⟨w.heap.size, 0, none⟩ = some (.bool ba) ∧ w'.cell? ⟨w.heap.size, 1, none⟩ = some (.slice Aa na ca) ∧ w'.cell? ⟨w.heap.size, 2, none⟩ = some (.slice Ba ma da) ∧ w'.cell? ⟨w.heap.size + 1, 0, none⟩ = some (.bool bp) ∧ w'.cell? ⟨w.heap.size + 1, 1, none⟩ = some (.slice Ap np cp) ∧ w'.cell? ⟨w.heap.size + 1, 2, none⟩ = some (.slice Bp mp dp)) := by
    intro w' hb
    have e0 := hb.bq ka (by omega)
    have e1 := hb.bq kp (by omega)
    exact ⟨e0.c0, e0.c1, e0.c2, e1.c0, e1.c1, e1.c2⟩
  go_cut [5, 6] (fun s5 s6 wx => TwoQ (W1.heap.size) W1 x y (max k 2) (max j 2) (max k' 2) (max j' 2) s5 s6 wx)
  case first =>
    clear ka kp
    go_region_held3 (fun w' => w'.cell? ⟨w.heap.size, 0, none⟩ = some (.bool ba) ∧ w'.cell? ⟨w.heap.size, 1, none⟩ = some (.slice Aa na ca) ∧ w'.cell? ⟨w.heap.size, 2, none⟩ = some (.slice Ba ma da) ∧ w'.cell? ⟨w.heap.size + 1, 0, none⟩ = some (.bool bp) ∧ w'.cell? ⟨w.heap.size + 1, 1, none⟩ = some (.slice Ap np cp) ∧ w'.cell? ⟨w.heap.size + 1, 2, none⟩ = some (.slice Bp mp dp))
      (first | with_reducible exact HS.out _ hs | (with_reducible refine HS.out _ ?_; repeat (first | with_reducible exact hs | with_reducible refine Bw.drew ?_ | with_reducible refine Bw.alloc ?_ _ | with_reducible refine Bw.set ?_ _ (by first | omega | (simp; done) | (simp; omega)) _)))
      (first
        | (go_at_call 15; (first | (with_reducible refine (rqnorm_q ha.drew ?_ ?_).mono ?_) | (with_reducible refine (rqnorm_q (ha.below (below_alloc _ _)).drew ?_ ?_).mono ?_) | (with_reducible refine (rqnorm_q ((ha.below (below_alloc _ _)).below (below_alloc _ _)).drew ?_ ?_).mono ?_)); omega; omega; rintro e w70 ⟨b1, A1, n1, c1, B1, m1, d1, rfl, z1, bb⟩; (first | have hp := hp.drew.below bb | have hp := (hp.below (below_alloc _ _)).drew.below bb | have hp := ((hp.below (below_alloc _ _)).below (below_alloc _ _)).drew.below bb); (first | have hs := hs.drew.up bb | have hs := (hs.alloc _).drew.up bb | have hs := ((hs.alloc _).alloc _).drew.up bb); have z_0 := hs.2; (first | (have p0_0 := (((Rq.new _ (W1.heap.size) (by first | rfl | simp)).below (below_alloc _ _))).drew.below bb; have p0_1 := ((Rq.new _ (W1.heap.size + 1) (by first | rfl | simp))).drew.below bb) | (have p0_0 := ((Rq.new _ (W1.heap.size) (by first | rfl | simp))).drew.below bb) | skip); (try obtain ⟨p0_0_a, p0_0_b, p0_0_c⟩ := p0_0.apart); (try obtain ⟨p0_1_a, p0_1_b, p0_1_c⟩ := p0_1.apart); clear bb ha)
        | (go_at_call 15; (first | (with_reducible refine (rqnorm_q hp ?_ ?_).mono ?_) | (with_reducible refine (rqnorm_q (hp.below (below_alloc _ _)) ?_ ?_).mono ?_) | (with_reducible refine (rqnorm_q ((hp.below (below_alloc _ _)).below (below_alloc _ _)) ?_ ?_).mono ?_)); omega; omega; rintro e w71 ⟨b2, A2, n2, c2, B2, m2, d2, rfl, z2, bb⟩; (first | have z1 := z1.below bb | have z1 := (z1.below (below_alloc _ _)).below bb | have z1 := ((z1.below (below_alloc _ _)).below (below_alloc _ _)).below bb); (first | have hs := hs.up bb | have hs := (hs.alloc _).up bb | have hs := ((hs.alloc _).alloc _).up bb); have z_1 := hs.2; (try (first | have p0_0 := p0_0.below bb | have p0_0 := (p0_0.below (below_alloc _ _)).below bb | have p0_0 := ((p0_0.below (below_alloc _ _)).below (below_alloc _ _)).below bb)); (try (first | have p0_1 := p0_1.below bb | have p0_1 := (p0_1.below (below_alloc _ _)).below bb | have p0_1 := ((p0_1.below (below_alloc _ _)).below (below_alloc _ _)).below bb)); (first | (have p1_0 := (((Rq.new _ (w70.heap.size) (by first | rfl | simp)).below (below_alloc _ _))).below bb; have p1_1 := ((Rq.new _ (w70.heap.size + 1) (by first | rfl | simp))).below bb) | (have p1_0 := ((Rq.new _ (w70.heap.size) (by first | rfl | simp))).below bb) | skip); (try obtain ⟨p0_0_a, p0_0_b, p0_0_c⟩ := p0_0.apart); (try obtain ⟨p0_1_a, p0_1_b, p0_1_c⟩ := p0_1.apart); (try obtain ⟨p1_0_a, p1_0_b, p1_0_c⟩ := p1_0.apart); (try obtain ⟨p1_1_a, p1_1_b, p1_1_c⟩ := p1_1.apart); (try (have p0_0_0 := p0_0.1; have p0_0_1 := p0_0.2.1; have p0_0_2 := p0_0.2.2.1; have p0_0_3 := p0_0.2.2.2.1; have p0_0_4 := p0_0.2.2.2.2.1; have p0_0_5 := p0_0.2.2.2.2.2)); (try (have p0_1_0 := p0_1.1; have p0_1_1 := p0_1.2.1; have p0_1_2 := p0_1.2.2.1; have p0_1_3 := p0_1.2.2.2.1; have p0_1_4 := p0_1.2.2.2.2.1; have p0_1_5 := p0_1.2.2.2.2.2)); (try (have p1_0_0 := p1_0.1; have p1_0_1 := p1_0.2.1; have p1_0_2 := p1_0.2.2.1; have p1_0_3 := p1_0.2.2.2.1; have p1_0_4 := p1_0.2.2.2.2.1; have p1_0_5 := p1_0.2.2.2.2.2)); (try (have p1_1_0 := p1_1.1; have p1_1_1 := p1_1.2.1; have p1_1_2 := p1_1.2.2.1; have p1_1_3 := p1_1.2.2.2.1; have p1_1_4 := p1_1.2.2.2.2.1; have p1_1_5 := p1_1.2.2.2.2.2)); clear bb hp))
    all_goals
      go_wp2_with fail
      go_meet
      refine ⟨_, b1, A1, n1, c1, B1, m1, d1, _, b2, A2, n2, c2, B2, m2, d2, rfl, rfl, ?_, ?_, ?_, ?_, ?_, ?_, ?_⟩
      all_goals
        repeat' (first | with_reducible assumption | (with_reducible exact Bq.new _ _ (by simp) _ _ _) | (with_reducible exact Bx.new _ _ (by simp) _ _) | (with_reducible refine Bq.later ?_ _) | (with_reducible refine Bx.later ?_ _) | (with_reducible refine Rq.written ?_ _ _ _) | (with_reducible refine Rx.written ?_ _ _) | (with_reducible refine Bq.ret3 ?_ (by omega) _ _ _) | (with_reducible refine Bq.ret ?_ (by omega) _ _) | (with_reducible refine Bx.ret3 ?_ (by omega) _ _ _) | (with_reducible refine Bx.ret ?_ (by omega) _ _) | (with_reducible refine Qz.later ?_ _) | (with_reducible refine Qz.ret3 ?_ ?_ _ _ _) | (with_reducible refine Qz.ret ?_ ?_ _ _) | (with_reducible refine Qv.later ?_ _) | (with_reducible refine Qv.ret3 ?_ ?_ _ _ _) | (with_reducible refine Qv.ret ?_ ?_ _ _) | (with_reducible refine Iz.later ?_ _) | (with_reducible refine Iz.ret3 ?_ ?_ _ _ _) | (with_reducible refine Iz.ret ?_ ?_ _ _) | (with_reducible refine Rq.ret3 ?_ (by omega) _ _ _) | (with_reducible refine Rx.ret ?_ (by omega) _ _) | (with_reducible refine Bw.alloc ?_ _) | (with_reducible refine Bw.ret3 ?_ (by omega) _ _ _) | (with_reducible refine Bw.ret ?_ (by omega) _ _) | omega)
  case rest =>
    obtain ⟨g1, b1, A1, n1, c1, B1, m1, d1, g2, b2, A2, n2, c2, B2, m2, d2, rfl, rfl, k1, k2, z1, z2, l1, l2, hw⟩ := hcut
    have ka := hw.bq ka (by omega)
    have kp := hw.bq kp (by omega)
    have kr := hw.rq kr (by omega)
    have B0 := B0.trans (hw.1.mono B0.size)
    clear HS
    clear hw
    have i1 := z1.parts.1
    have d1' := z1.parts.2
    have i2 := z2.parts.1
    have d2' := z2.parts.2
    obtain ⟨p1, n1', e1, _⟩ := i1.parts
    obtain ⟨p2, n2', e2, _⟩ := i2.parts
    have hx : mkRat (sgn (!(b1 == b2)) (p1 * p2)) (x.den * y.den) = x * y := RatN.q_mul_s x y b1 b2 p1 p2 e1 e2
    have hd : x.den * y.den ≠ 0 := Nat.mul_ne_zero x.den_nz y.den_nz
    have HX := Lib.hid hx
    have HD := Lib.hid hd
    clear e1 e2 hx hd i1 i2 z1 z2
    go_wp2_with fail
    have kr := kr.drew
    have k1 := k1.drew
    have k2 := k2.drew
    have d1' := d1'.drew
    have d2' := d2'.drew
    have n1' := n1'.drew
    have n2' := n2'.drew
    have B0 := b_drew B0
    go_region_held3 (fun w' => w'.cell? ⟨g1, 0, none⟩ = some (.bool b1) ∧ w'.cell? ⟨g1, 1, none⟩ = some (.slice A1 n1 c1) ∧ w'.cell? ⟨g1, 2, none⟩ = some (.slice B1 m1 d1) ∧ w'.cell? ⟨g2, 0, none⟩ = some (.bool b2) ∧ w'.cell? ⟨g2, 1, none⟩ = some (.slice A2 n2 c2) ∧ w'.cell? ⟨g2, 2, none⟩ = some (.slice B2 m2 d2)) (first | with_reducible exact ⟨k1.c0, k1.c1, k1.c2, k2.c0, k2.c1, k2.c2⟩ | with_reducible exact ⟨(k1.ret3 (r := w.heap.size + 1 + 1) (by omega) _ _ _).c0, (k1.ret3 (r := w.heap.size + 1 + 1) (by omega) _ _ _).c1, (k1.ret3 (r := w.heap.size + 1 + 1) (by omega) _ _ _).c2, (k2.ret3 (r := w.heap.size + 1 + 1) (by omega) _ _ _).c0, (k2.ret3 (r := w.heap.size + 1 + 1) (by omega) _ _ _).c1, (k2.ret3 (r := w.heap.size + 1 + 1) (by omega) _ _ _).c2⟩)
      (first
        | (go_at_call 41; (with_reducible refine (rmul_e n1'.nm n2'.nm ?_ ?_).mono ?_); omega; omega; rintro e w1 ⟨v5, rfl, z5, bb⟩; have kr := kr.below bb; have k1 := k1.below bb; have k2 := k2.below bb; have d1' := d1'.below bb; have d2' := d2'.below bb; have n1' := n1'.below bb; have n2' := n2'.below bb; have B0 := B0.trans (bb.mono B0.size); clear bb; obtain ⟨A5, n5, c5, rfl, _, _⟩ := z5.nm.form)
        | (go_at_call 41; (with_reducible refine (rmul_e d1'.nm d2'.nm ?_ ?_).mono ?_); omega; omega; rintro e w2 ⟨v6, rfl, z6, bb⟩; have kr := kr.below bb; have k1 := k1.below bb; have k2 := k2.below bb; have d1' := d1'.below bb; have d2' := d2'.below bb; have n1' := n1'.below bb; have n2' := n2'.below bb; have z5 := z5.below bb; have B0 := B0.trans (bb.mono B0.size); clear bb; obtain ⟨A6, n6, c6, rfl, _, _⟩ := z6.nm.form)
        | (go_at_call 40; (with_reducible refine (rreduce_q (!(b1 == b2)) z5.nm z6.nm ?_ ?_ HD.out _ HX.out).mono ?_); omega; omega; rintro e w3 ⟨br, Ar, nr, cr, Br, mr, dr, rfl, zr, bb⟩; have kr := kr.below bb; have k1 := k1.below bb; have k2 := k2.below bb; have d1' := d1'.below bb; have d2' := d2'.below bb; have n1' := n1'.below bb; have n2' := n2'.below bb; have z5 := z5.below bb; have z6 := z6.below bb; have B0 := B0.trans (bb.mono B0.size); clear bb; have k1_0 := k1.c0; have k1_1 := k1.c1; have k1_2 := k1.c2; have k2_0 := k2.c0; have k2_1 := k2.c1; have k2_2 := k2.c2; have kr_0 := kr.1; have kr_1 := kr.2.1; have kr_2 := kr.2.2.1; have kr_3 := kr.2.2.2.1; have kr_4 := kr.2.2.2.2.1; have kr_5 := kr.2.2.2.2.2))
    go_wp2
    refine bodyPost_ret (v := .agg #[.bool br, .slice Ar nr cr, .slice Br mr dr]) (by simp [results, Tryz.results23, go_sem, kr_0, kr_1, kr_2]) rfl ⟨_, _, _, _, _, _, _, rfl, zr.ret3 kr _ _ _, below_ret3 B0 (by omega) _ _ _⟩
set_option maxRecDepth 20000 in
set_option maxHeartbeats 8000000 in
theorem rqdiv_q {w : World} {va vp : Value} {x y : Rat} {k j k' j' : Nat} (ha : Qv w va x k j) (hp : Qv w vp y k' j') (h1 : k ≤ 20) (h2 : j ≤ 20) (h3 : k' ≤ 20) (h4 : j' ≤ 20) (h0 : y ≠ 0) : Calls Tryz.prog 10 #[va, vp] w (QbEnd (x / y) (max k 2 + max j' 2) (max j 2 + max k' 2) w) := by
  obtain ⟨ba, Aa, na, ca, Ba, ma, da, rfl, _, _, _⟩ := ha.named
  obtain ⟨bp, Ap, np, cp, Bp, mp, dp, rfl, _, _, _⟩ := hp.named
  have hz : decide (y = 0) = false := decide_eq_false h0
  have H0 := Lib.hid h0
  clear h0
  have HZ := Lib.hid hz
  clear hz
  have B0 := below_a3 w (.cells #[.bool ba, .slice Aa na ca, .slice Ba ma da] 27) (.cells #[.bool bp, .slice Ap np cp, .slice Bp mp dp] 27) (.cells #[.bool false, .slice none 0 0, .slice none 0 0] 27)
  have ha := ha.below B0
  have hp := hp.below B0
  have ka := (((Bq.new w (w.heap.size) (by simp) (.bool ba) (.slice Aa na ca) (.slice Ba ma da)).below (below_alloc (w.alloc (.cells #[.bool ba, .slice Aa na ca, .slice Ba ma da] 27)) (.cells #[.bool bp, .slice Ap np cp, .slice Bp mp dp] 27))).below (below_alloc ((w.alloc (.cells #[.bool ba, .slice Aa na ca, .slice Ba ma da] 27)).alloc (.cells #[.bool bp, .slice Ap np cp, .slice Bp mp dp] 27)) (.cells #[.bool false, .slice none 0 0, .slice none 0 0] 27)))
  have kp := ((Bq.new (w.alloc (.cells #[.bool ba, .slice Aa na ca, .slice Ba ma da] 27)) (w.heap.size + 1) (by simp) (.bool bp) (.slice Ap np cp) (.slice Bp mp dp)).below (below_alloc ((w.alloc (.cells #[.bool ba, .slice Aa na ca, .slice Ba ma da] 27)).alloc (.cells #[.bool bp, .slice Ap np cp, .slice Bp mp dp] 27)) (.cells #[.bool false, .slice none 0 0, .slice none 0 0] 27)))
  have kr := (Rq.new ((w.alloc (.cells #[.bool ba, .slice Aa na ca, .slice Ba ma da] 27)).alloc (.cells #[.bool bp, .slice Ap np cp, .slice Bp mp dp] 27)) (w.heap.size + 1 + 1) (by simp))
  go_enter Tryz.func10, Tryz.ntmps10
  have ka_0 := ka.c0
  have ka_1 := ka.c1
  have ka_2 := ka.c2
  have kp_0 := kp.c0
  have kp_1 := kp.c1
  have kp_2 := kp.c2
  have kr_0 := kr.1
  have kr_1 := kr.2.1
  have kr_2 := kr.2.2.1
  have kr_3 := kr.2.2.2.1
  have kr_4 := kr.2.2.2.2.1
  have kr_5 := kr.2.2.2.2.2
  go_wp2_with fail
  refine (rzero_q hp (by omega) (by omega) false HZ.out).mono ?_
  clear ka_0 ka_1 ka_2 kp_0 kp_1 kp_2 kr_0 kr_1 kr_2 kr_3 kr_4 kr_5
  rintro e w1 ⟨rfl, bb⟩
  have ha := ha.below bb
  have hp := hp.below bb
  have ka := ka.below bb
  have kp := kp.below bb
  have kr := kr.below bb
  have B0 := B0.trans (bb.mono B0.size)
  clear bb
  go_upto_region 3 with fail
  obtain ⟨W1, hW⟩ : ∃ W0, w1 = W0 := ⟨_, rfl⟩
  rw [hW] at ha hp ka kp kr B0 ⊢
  clear hW
  have lka := ka.lt
  have lkp := kp.lt
  have lkr := kr.apart.1
  have hs : Bw (W1.heap.size) W1 W1 := ⟨Below.refl _ _, Nat.le_refl _⟩
  have HS : Hid (∀ w', Bw (W1.heap.size) W1 w' → w'.cell? ⟨w.heap.size, 0, none⟩ = some (.bool ba) ∧ w'.cell? ⟨w.heap.size, 1, none⟩ = some (.slice Aa na ca) ∧ w'.cell? ⟨w.heap.size, 2, none⟩ = some (.slice Ba ma da) ∧ w'.cell? ⟨w.heap.size + 1, 0, none⟩ = some (.bool bp) ∧ w'.cell? ⟨w.heap.size + 1, 1, none⟩ = some (.slice Ap np cp) ∧ w'.cell? ⟨w.heap.size + 1, 2, none⟩ = some (.slice Bp mp dp)) := by
    intro w' hb
    have e0 := hb.bq ka (by omega)
    have e1 := hb.bq kp (by omega)
    exact ⟨e0.c0, e0.c1, e0.c2, e1.c0, e1.c1, e1.c2⟩
  go_cut [6, 7] (fun s6 s7 wx => TwoQ (W1.heap.size) W1 x y (max k 2) (max j 2) (max k' 2) (max j' 2) s6 s7 wx)
  case first =>
    clear ka kp
    go_region_held3 (fun w' => w'.cell? ⟨w.heap.size, 0, none⟩ = some (.bool ba) ∧ w'.cell? ⟨w.heap.size, 1, none⟩ = some (.slice Aa na ca) ∧ w'.cell? ⟨w.heap.size, 2, none⟩ = some (.slice Ba ma da) ∧ w'.cell? ⟨w.heap.size + 1, 0, none⟩ = some (.bool bp) ∧ w'.cell? ⟨w.heap.size + 1, 1, none⟩ = some (.slice Ap np cp) ∧ w'.cell? ⟨w.heap.size + 1, 2, none⟩ = some (.slice Bp mp dp))
      (first | with_reducible exact HS.out _ hs | (with_reducible refine HS.out _ ?_; repeat (first | with_reducible exact hs | with_reducible refine Bw.drew ?_ | with_reducible refine Bw.alloc ?_ _ | with_reducible refine Bw.set ?_ _ (by first | omega | (simp; done) | (simp; omega)) _)))
      (first
        | (go_at_call 15; (first | (with_reducible refine (rqnorm_q ha.drew ?_ ?_).mono ?_) | (with_reducible refine (rqnorm_q (ha.below (below_alloc _ _)).drew ?_ ?_).mono ?_) | (with_reducible refine (rqnorm_q ((ha.below (below_alloc _ _)).below (below_alloc _ _)).drew ?_ ?_).mono ?_)); omega; omega; rintro e w70 ⟨b1, A1, n1, c1, B1, m1, d1, rfl, z1, bb⟩; (first | have hp := hp.drew.below bb | have hp := (hp.below (below_alloc _ _)).drew.below bb | have hp := ((hp.below (below_alloc _ _)).below (below_alloc _ _)).drew.below bb); (first | have hs := hs.drew.up bb | have hs := (hs.alloc _).drew.up bb | have hs := ((hs.alloc _).alloc _).drew.up bb); have z_0 := hs.2; (first | (have p0_0 := (((Rq.new _ (W1.heap.size) (by first | rfl | simp)).below (below_alloc _ _))).drew.below bb; have p0_1 := ((Rq.new _ (W1.heap.size + 1) (by first | rfl | simp))).drew.below bb) | (have p0_0 := ((Rq.new _ (W1.heap.size) (by first | rfl | simp))).drew.below bb) | skip); (try obtain ⟨p0_0_a, p0_0_b, p0_0_c⟩ := p0_0.apart); (try obtain ⟨p0_1_a, p0_1_b, p0_1_c⟩ := p0_1.apart); clear bb ha)
        | (go_at_call 15; (first | (with_reducible refine (rqnorm_q hp ?_ ?_).mono ?_) | (with_reducible refine (rqnorm_q (hp.below (below_alloc _ _)) ?_ ?_).mono ?_) | (with_reducible refine (rqnorm_q ((hp.below (below_alloc _ _)).below (below_alloc _ _)) ?_ ?_).mono ?_)); omega; omega; rintro e w71 ⟨b2, A2, n2, c2, B2, m2, d2, rfl, z2, bb⟩; (first | have z1 := z1.below bb | have z1 := (z1.below (below_alloc _ _)).below bb | have z1 := ((z1.below (below_alloc _ _)).below (below_alloc _ _)).below bb); (first | have hs := hs.up bb | have hs := (hs.alloc _).up bb | have hs := ((hs.alloc _).alloc _).up bb); have z_1 := hs.2; (try (first | have p0_0 := p0_0.below bb | have p0_0 := (p0_0.below (below_alloc _ _)).below bb | have p0_0 := ((p0_0.below (below_alloc _ _)).below (below_alloc _ _)).below bb)); (try (first | have p0_1 := p0_1.below bb | have p0_1 := (p0_1.below (below_alloc _ _)).below bb | have p0_1 := ((p0_1.below (below_alloc _ _)).below (below_alloc _ _)).below bb)); (first | (have p1_0 := (((Rq.new _ (w70.heap.size) (by first | rfl | simp)).below (below_alloc _ _))).below bb; have p1_1 := ((Rq.new _ (w70.heap.size + 1) (by first | rfl | simp))).below bb) | (have p1_0 := ((Rq.new _ (w70.heap.size) (by first | rfl | simp))).below bb) | skip); (try obtain ⟨p0_0_a, p0_0_b, p0_0_c⟩ := p0_0.apart); (try obtain ⟨p0_1_a, p0_1_b, p0_1_c⟩ := p0_1.apart); (try obtain ⟨p1_0_a, p1_0_b, p1_0_c⟩ := p1_0.apart); (try obtain ⟨p1_1_a, p1_1_b, p1_1_c⟩ := p1_1.apart); (try (have p0_0_0 := p0_0.1; have p0_0_1 := p0_0.2.1; have p0_0_2 := p0_0.2.2.1; have p0_0_3 := p0_0.2.2.2.1; have p0_0_4 := p0_0.2.2.2.2.1; have p0_0_5 := p0_0.2.2.2.2.2)); (try (have p0_1_0 := p0_1.1; have p0_1_1 := p0_1.2.1; have p0_1_2 := p0_1.2.2.1; have p0_1_3 := p0_1.2.2.2.1; have p0_1_4 := p0_1.2.2.2.2.1; have p0_1_5 := p0_1.2.2.2.2.2)); (try (have p1_0_0 := p1_0.1; have p1_0_1 := p1_0.2.1; have p1_0_2 := p1_0.2.2.1; have p1_0_3 := p1_0.2.2.2.1; have p1_0_4 := p1_0.2.2.2.2.1; have p1_0_5 := p1_0.2.2.2.2.2)); (try (have p1_1_0 := p1_1.1; have p1_1_1 := p1_1.2.1; have p1_1_2 := p1_1.2.2.1; have p1_1_3 := p1_1.2.2.2.1; have p1_1_4 := p1_1.2.2.2.2.1; have p1_1_5 := p1_1.2.2.2.2.2)); clear bb hp))
    all_goals
      go_wp2_with fail
      go_meet
      refine ⟨_, b1, A1, n1, c1, B1, m1, d1, _, b2, A2, n2, c2, B2, m2, d2, rfl, rfl, ?_, ?_, ?_, ?_, ?_, ?_, ?_⟩
      all_goals
        repeat' (first | with_reducible assumption | (with_reducible exact Bq.new _ _ (by simp) _ _ _) | (with_reducible exact Bx.new _ _ (by simp) _ _) | (with_reducible refine Bq.later ?_ _) | (with_reducible refine Bx.later ?_ _) | (with_reducible refine Rq.written ?_ _ _ _) | (with_reducible refine Rx.written ?_ _ _) | (with_reducible refine Bq.ret3 ?_ (by omega) _ _ _) | (with_reducible refine Bq.ret ?_ (by omega) _ _) | (with_reducible refine Bx.ret3 ?_ (by omega) _ _ _) | (with_reducible refine Bx.ret ?_ (by omega) _ _) | (with_reducible refine Qz.later ?_ _) | (with_reducible refine Qz.ret3 ?_ ?_ _ _ _) | (with_reducible refine Qz.ret ?_ ?_ _ _) | (with_reducible refine Qv.later ?_ _) | (with_reducible refine Qv.ret3 ?_ ?_ _ _ _) | (with_reducible refine Qv.ret ?_ ?_ _ _) | (with_reducible refine Iz.later ?_ _) | (with_reducible refine Iz.ret3 ?_ ?_ _ _ _) | (with_reducible refine Iz.ret ?_ ?_ _ _) | (with_reducible refine Rq.ret3 ?_ (by omega) _ _ _) | (with_reducible refine Rx.ret ?_ (by omega) _ _) | (with_reducible refine Bw.alloc ?_ _) | (with_reducible refine Bw.ret3 ?_ (by omega) _ _ _) | (with_reducible refine Bw.ret ?_ (by omega) _ _) | omega)
  case rest =>
    obtain ⟨g1, b1, A1, n1, c1, B1, m1, d1, g2, b2, A2, n2, c2, B2, m2, d2, rfl, rfl, k1, k2, z1, z2, l1, l2, hw⟩ := hcut
    have ka := hw.bq ka (by omega)
    have kp := hw.bq kp (by omega)
    have kr := hw.rq kr (by omega)
    have B0 := B0.trans (hw.1.mono B0.size)
    clear HS
    clear hw
    have i1 := z1.parts.1
    have d1' := z1.parts.2
    have i2 := z2.parts.1
    have d2' := z2.parts.2
    obtain ⟨p1, n1', e1, _⟩ := i1.parts
    obtain ⟨p2, n2', e2, _⟩ := i2.parts
    have hx : mkRat (sgn (!(b1 == b2)) (p1 * y.den)) (x.den * p2) = x / y := RatN.q_div x y b1 b2 p1 p2 e1 e2 H0.out
    have hd : x.den * p2 ≠ 0 := Nat.mul_ne_zero x.den_nz (by rintro rfl; exact H0.out ((RatN.num_zero y).mp (by rw [e2, sgn_zero])))
    have HX := Lib.hid hx
    have HD := Lib.hid hd
    clear e1 e2 hx hd i1 i2 z1 z2
    go_wp2_with fail
    have kr := kr.drew
    have k1 := k1.drew
    have k2 := k2.drew
    have d1' := d1'.drew
    have d2' := d2'.drew
    have n1' := n1'.drew
    have n2' := n2'.drew
    have B0 := b_drew B0
    go_region_held3 (fun w' => w'.cell? ⟨g1, 0, none⟩ = some (.bool b1) ∧ w'.cell? ⟨g1, 1, none⟩ = some (.slice A1 n1 c1) ∧ w'.cell? ⟨g1, 2, none⟩ = some (.slice B1 m1 d1) ∧ w'.cell? ⟨g2, 0, none⟩ = some (.bool b2) ∧ w'.cell? ⟨g2, 1, none⟩ = some (.slice A2 n2 c2) ∧ w'.cell? ⟨g2, 2, none⟩ = some (.slice B2 m2 d2)) (first | with_reducible exact ⟨k1.c0, k1.c1, k1.c2, k2.c0, k2.c1, k2.c2⟩ | with_reducible exact ⟨(k1.ret3 (r := w.heap.size + 1 + 1) (by omega) _ _ _).c0, (k1.ret3 (r := w.heap.size + 1 + 1) (by omega) _ _ _).c1, (k1.ret3 (r := w.heap.size + 1 + 1) (by omega) _ _ _).c2, (k2.ret3 (r := w.heap.size + 1 + 1) (by omega) _ _ _).c0, (k2.ret3 (r := w.heap.size + 1 + 1) (by omega) _ _ _).c1, (k2.ret3 (r := w.heap.size + 1 + 1) (by omega) _ _ _).c2⟩)
      (first
        | (go_at_call 41; (with_reducible refine (rmul_e n1'.nm d2'.nm ?_ ?_).mono ?_); omega; omega; rintro e w2 ⟨v5, rfl, z5, bb⟩; have kr := kr.below bb; have k1 := k1.below bb; have k2 := k2.below bb; have d1' := d1'.below bb; have d2' := d2'.below bb; have n1' := n1'.below bb; have n2' := n2'.below bb; have B0 := B0.trans (bb.mono B0.size); clear bb; obtain ⟨A5, n5, c5, rfl, _, _⟩ := z5.nm.form)
        | (go_at_call 41; (with_reducible refine (rmul_e d1'.nm n2'.nm ?_ ?_).mono ?_); omega; omega; rintro e w3 ⟨v6, rfl, z6, bb⟩; have kr := kr.below bb; have k1 := k1.below bb; have k2 := k2.below bb; have d1' := d1'.below bb; have d2' := d2'.below bb; have n1' := n1'.below bb; have n2' := n2'.below bb; have z5 := z5.below bb; have B0 := B0.trans (bb.mono B0.size); clear bb; obtain ⟨A6, n6, c6, rfl, _, _⟩ := z6.nm.form)
        | (go_at_call 40; (with_reducible refine (rreduce_q (!(b1 == b2)) z5.nm z6.nm ?_ ?_ HD.out _ HX.out).mono ?_); omega; omega; rintro e w4 ⟨br, Ar, nr, cr, Br, mr, dr, rfl, zr, bb⟩; have kr := kr.below bb; have k1 := k1.below bb; have k2 := k2.below bb; have d1' := d1'.below bb; have d2' := d2'.below bb; have n1' := n1'.below bb; have n2' := n2'.below bb; have z5 := z5.below bb; have z6 := z6.below bb; have B0 := B0.trans (bb.mono B0.size); clear bb; have k1_0 := k1.c0; have k1_1 := k1.c1; have k1_2 := k1.c2; have k2_0 := k2.c0; have k2_1 := k2.c1; have k2_2 := k2.c2; have kr_0 := kr.1; have kr_1 := kr.2.1; have kr_2 := kr.2.2.1; have kr_3 := kr.2.2.2.1; have kr_4 := kr.2.2.2.2.1; have kr_5 := kr.2.2.2.2.2))
    go_wp2
    refine bodyPost_ret (v := .tuple #[.agg #[.bool br, .slice Ar nr cr, .slice Br mr dr], .bool true]) (by simp [results, Tryz.results10, go_sem, kr_0, kr_1, kr_2]) rfl ⟨_, _, _, _, _, _, _, rfl, zr.ret3 kr _ _ _, below_ret3 B0 (by omega) _ _ _⟩
set_option maxRecDepth 20000 in
set_option maxHeartbeats 8000000 in
theorem rqdiv_0 {w : World} {va vp : Value} {x y : Rat} {k j k' j' : Nat} (ha : Qv w va x k j) (hp : Qv w vp y k' j') (h1 : k ≤ 20) (h2 : j ≤ 20) (h3 : k' ≤ 20) (h4 : j' ≤ 20) (h0 : y = 0) : Calls Tryz.prog 10 #[va, vp] w (Q0End w) := by
  obtain ⟨ba, Aa, na, ca, Ba, ma, da, rfl, _, _, _⟩ := ha.named
  obtain ⟨bp, Ap, np, cp, Bp, mp, dp, rfl, _, _, _⟩ := hp.named
  have hz : decide (y = 0) = true := decide_eq_true h0
  have HZ := Lib.hid hz
  clear hz
  have B0 := below_a3 w (.cells #[.bool ba, .slice Aa na ca, .slice Ba ma da] 27) (.cells #[.bool bp, .slice Ap np cp, .slice Bp mp dp] 27) (.cells #[.bool false, .slice none 0 0, .slice none 0 0] 27)
  have hp := hp.below B0
  have ka := (((Bq.new w (w.heap.size) (by simp) (.bool ba) (.slice Aa na ca) (.slice Ba ma da)).below (below_alloc (w.alloc (.cells #[.bool ba, .slice Aa na ca, .slice Ba ma da] 27)) (.cells #[.bool bp, .slice Ap np cp, .slice Bp mp dp] 27))).below (below_alloc ((w.alloc (.cells #[.bool ba, .slice Aa na ca, .slice Ba ma da] 27)).alloc (.cells #[.bool bp, .slice Ap np cp, .slice Bp mp dp] 27)) (.cells #[.bool false, .slice none 0 0, .slice none 0 0] 27)))
  have kp := ((Bq.new (w.alloc (.cells #[.bool ba, .slice Aa na ca, .slice Ba ma da] 27)) (w.heap.size + 1) (by simp) (.bool bp) (.slice Ap np cp) (.slice Bp mp dp)).below (below_alloc ((w.alloc (.cells #[.bool ba, .slice Aa na ca, .slice Ba ma da] 27)).alloc (.cells #[.bool bp, .slice Ap np cp, .slice Bp mp dp] 27)) (.cells #[.bool false, .slice none 0 0, .slice none 0 0] 27)))
  have kr := (Rq.new ((w.alloc (.cells #[.bool ba, .slice Aa na ca, .slice Ba ma da] 27)).alloc (.cells #[.bool bp, .slice Ap np cp, .slice Bp mp dp] 27)) (w.heap.size + 1 + 1) (by simp))
  go_enter Tryz.func10, Tryz.ntmps10
  have ka_0 := ka.c0
  have ka_1 := ka.c1
  have ka_2 := ka.c2
  have kp_0 := kp.c0
  have kp_1 := kp.c1
  have kp_2 := kp.c2
  have kr_0 := kr.1
  have kr_1 := kr.2.1
  have kr_2 := kr.2.2.1
  have kr_3 := kr.2.2.2.1
  have kr_4 := kr.2.2.2.2.1
  have kr_5 := kr.2.2.2.2.2
  go_wp2_with fail
  refine (rzero_q hp (by omega) (by omega) true HZ.out).mono ?_
  clear ka_0 ka_1 ka_2 kp_0 kp_1 kp_2 kr_0 kr_1 kr_2 kr_3 kr_4 kr_5
  rintro e w1 ⟨rfl, bb⟩
  have hp := hp.below bb
  have ka := ka.below bb
  have kp := kp.below bb
  have kr := kr.below bb
  have B0 := B0.trans (bb.mono B0.size)
  clear bb
  have ka_0 := ka.c0
  have ka_1 := ka.c1
  have ka_2 := ka.c2
  have kp_0 := kp.c0
  have kp_1 := kp.c1
  have kp_2 := kp.c2
  have kr_0 := kr.1
  have kr_1 := kr.2.1
  have kr_2 := kr.2.2.1
  have kr_3 := kr.2.2.2.1
  have kr_4 := kr.2.2.2.2.1
  have kr_5 := kr.2.2.2.2.2
  go_wp2
  refine bodyPost_ret (v := .tuple #[.agg #[.bool false, .slice none 0 0, .slice none 0 0], .bool false]) (by simp [results, Tryz.results10, go_sem, kr_0, kr_1, kr_2]) rfl ⟨rfl, below_ret3 B0 (by omega) _ _ _⟩
set_option maxRecDepth 20000 in
set_option maxHeartbeats 2000000 in
theorem rqfloor_q {w : World} {va : Value} {x : Rat} {k j : Nat} (ha : Qv w va x k j) (hk : k ≤ 90) (hj : j ≤ 90) : Calls Tryz.prog 29 #[va] w (IEnd x.floor (max k 2 + 3) w) := by
  obtain ⟨ba, Aa, na, ca, Ba, ma, da, rfl, _, _, _⟩ := ha.named
  have hd : (x.den : Int) ≠ 0 := by have := x.den_nz; omega
  rw [← RatN.q_floor x]
  have HD := Lib.hid hd
  clear hd
  have B0 := below_a2 w (.cells #[.bool ba, .slice Aa na ca, .slice Ba ma da] 27) (.cells #[.bool false, .slice none 0 0] 25)
  have ha := ha.below B0
  have ka := ((Bq.new w (w.heap.size) (by simp) (.bool ba) (.slice Aa na ca) (.slice Ba ma da)).below (below_alloc (w.alloc (.cells #[.bool ba, .slice Aa na ca, .slice Ba ma da] 27)) (.cells #[.bool false, .slice none 0 0] 25)))
  have kr := (Rx.new (w.alloc (.cells #[.bool ba, .slice Aa na ca, .slice Ba ma da] 27)) (w.heap.size + 1) (by simp))
  go_enter Tryz.func29, Tryz.ntmps29
  have ka_0 := ka.c0
  have ka_1 := ka.c1
  have ka_2 := ka.c2
  have kr_0 := kr.1
  have kr_1 := kr.2.1
  have kr_2 := kr.2.2.1
  have kr_3 := kr.2.2.2
  go_wp2_with fail
  refine (rqnorm_q ha (by omega) (by omega)).mono ?_
  clear ka_0 ka_1 ka_2 kr_0 kr_1 kr_2 kr_3
  rintro e w1 ⟨b1, A1, n1, c1, B1, m1, d1, rfl, z1, bb⟩
  have ha := ha.below bb
  have ka := ka.below bb
  have kr := kr.below bb
  have B0 := B0.trans (bb.mono B0.size)
  clear bb
  have lkr_w1 := kr.apart.1
  have kr := kr.below (below_alloc w1 (.cells #[.bool b1, .slice A1 n1 c1, .slice B1 m1 d1] 27))
  have z1 := z1.below (below_alloc w1 (.cells #[.bool b1, .slice A1 n1 c1, .slice B1 m1 d1] 27))
  have k1 := Bq.new w1 (w1.heap.size) (by simp) (.bool b1) (.slice A1 n1 c1) (.slice B1 m1 d1)
  have B0 := B0.trans ((below_alloc w1 (.cells #[.bool b1, .slice A1 n1 c1, .slice B1 m1 d1] 27)).mono B0.size)
  have i1 := z1.parts.1
  have d1' := z1.parts.2
  have k1_0 := k1.c0
  have k1_1 := k1.c1
  have k1_2 := k1.c2
  have kr_0 := kr.1
  have kr_1 := kr.2.1
  have kr_2 := kr.2.2.1
  have kr_3 := kr.2.2.2
  go_wp2_with fail
  refine (ridiv_e i1.iv d1'.iv0 (by omega) (by omega) HD.out).mono ?_
  clear k1_0 k1_1 k1_2 kr_0 kr_1 kr_2 kr_3
  rintro e w2 ⟨v5, v6, rfl, z5, z6, bb⟩
  have kr := kr.below bb
  have z1 := z1.below bb
  have k1 := k1.below bb
  have i1 := i1.below bb
  have d1' := d1'.below bb
  have B0 := B0.trans (bb.mono B0.size)
  clear bb
  obtain ⟨b5, A5, n5, c5, rfl, z5⟩ := z5.cells
  obtain ⟨b6, A6, n6, c6, rfl, z6⟩ := z6.cells
  have lkr_w2 := kr.apart.1
  have kr := kr.below (below_alloc w2 (.cells #[.bool b5, .slice A5 n5 c5] 25))
  have z1 := z1.below (below_alloc w2 (.cells #[.bool b5, .slice A5 n5 c5] 25))
  have k1 := k1.below (below_alloc w2 (.cells #[.bool b5, .slice A5 n5 c5] 25))
  have i1 := i1.below (below_alloc w2 (.cells #[.bool b5, .slice A5 n5 c5] 25))
  have d1' := d1'.below (below_alloc w2 (.cells #[.bool b5, .slice A5 n5 c5] 25))
  have z5 := z5.below (below_alloc w2 (.cells #[.bool b5, .slice A5 n5 c5] 25))
  have z6 := z6.below (below_alloc w2 (.cells #[.bool b5, .slice A5 n5 c5] 25))
  have kq := Bx.new w2 (w2.heap.size) (by simp) (.bool b5) (.slice A5 n5 c5)
  have B0 := B0.trans ((below_alloc w2 (.cells #[.bool b5, .slice A5 n5 c5] 25)).mono B0.size)
  have kr := kr.below (below_alloc (w2.alloc (.cells #[.bool b5, .slice A5 n5 c5] 25)) (.cells #[.bool b6, .slice A6 n6 c6] 25))
  have z1 := z1.below (below_alloc (w2.alloc (.cells #[.bool b5, .slice A5 n5 c5] 25)) (.cells #[.bool b6, .slice A6 n6 c6] 25))
  have k1 := k1.below (below_alloc (w2.alloc (.cells #[.bool b5, .slice A5 n5 c5] 25)) (.cells #[.bool b6, .slice A6 n6 c6] 25))
  have i1 := i1.below (below_alloc (w2.alloc (.cells #[.bool b5, .slice A5 n5 c5] 25)) (.cells #[.bool b6, .slice A6 n6 c6] 25))
  have d1' := d1'.below (below_alloc (w2.alloc (.cells #[.bool b5, .slice A5 n5 c5] 25)) (.cells #[.bool b6, .slice A6 n6 c6] 25))
  have z5 := z5.below (below_alloc (w2.alloc (.cells #[.bool b5, .slice A5 n5 c5] 25)) (.cells #[.bool b6, .slice A6 n6 c6] 25))
  have z6 := z6.below (below_alloc (w2.alloc (.cells #[.bool b5, .slice A5 n5 c5] 25)) (.cells #[.bool b6, .slice A6 n6 c6] 25))
  have kq := kq.below (below_alloc (w2.alloc (.cells #[.bool b5, .slice A5 n5 c5] 25)) (.cells #[.bool b6, .slice A6 n6 c6] 25))
  have ks := Bx.new (w2.alloc (.cells #[.bool b5, .slice A5 n5 c5] 25)) (w2.heap.size + 1) (by simp) (.bool b6) (.slice A6 n6 c6)
  have B0 := B0.trans ((below_alloc (w2.alloc (.cells #[.bool b5, .slice A5 n5 c5] 25)) (.cells #[.bool b6, .slice A6 n6 c6] 25)).mono B0.size)
  have k1_0 := k1.c0
  have k1_1 := k1.c1
  have k1_2 := k1.c2
  have kq_0 := kq.c0
  have kq_1 := kq.c1
  have ks_0 := ks.c0
  have ks_1 := ks.c1
  have kr_0 := kr.1
  have kr_1 := kr.2.1
  have kr_2 := kr.2.2.1
  have kr_3 := kr.2.2.2
  go_wp2
  refine bodyPost_ret (v := .agg #[.bool b5, .slice A5 n5 c5]) (by simp [results, Tryz.results29, go_sem, kr_0, kr_1]) rfl ⟨_, rfl, z5.ret kr _ _, below_ret B0 (by omega) _ _⟩
set_option maxRecDepth 20000 in
set_option maxHeartbeats 2000000 in
theorem rqround_q {w : World} {va : Value} {x : Rat} {k j : Nat} (ha : Qv w va x k j) (hk : k ≤ 90) (hj : j ≤ 90) : Calls Tryz.prog 31 #[va] w (IEnd (RatN.roundQ x) (max k j + 10) w) := by
  obtain ⟨ba, Aa, na, ca, Ba, ma, da, rfl, _, _, _⟩ := ha.named
  have B0 := below_a2 w (.cells #[.bool ba, .slice Aa na ca, .slice Ba ma da] 27) (.cells #[.bool false, .slice none 0 0] 25)
  have ha := ha.below B0
  have ka := ((Bq.new w (w.heap.size) (by simp) (.bool ba) (.slice Aa na ca) (.slice Ba ma da)).below (below_alloc (w.alloc (.cells #[.bool ba, .slice Aa na ca, .slice Ba ma da] 27)) (.cells #[.bool false, .slice none 0 0] 25)))
  have kr := (Rx.new (w.alloc (.cells #[.bool ba, .slice Aa na ca, .slice Ba ma da] 27)) (w.heap.size + 1) (by simp))
  go_enter Tryz.func31, Tryz.ntmps31
  have ka_0 := ka.c0
  have ka_1 := ka.c1
  have ka_2 := ka.c2
  have kr_0 := kr.1
  have kr_1 := kr.2.1
  have kr_2 := kr.2.2.1
  have kr_3 := kr.2.2.2
  go_wp2_with fail
  refine (rqnorm_q ha (by omega) (by omega)).mono ?_
  clear ka_0 ka_1 ka_2 kr_0 kr_1 kr_2 kr_3
  rintro e w1 ⟨b1, A1, n1, c1, B1, m1, d1, rfl, z1, bb⟩
  have ha := ha.below bb
  have ka := ka.below bb
  have kr := kr.below bb
  have B0 := B0.trans (bb.mono B0.size)
  clear bb
  have lkr_w1 := kr.apart.1
  have kr := kr.below (below_alloc w1 (.cells #[.bool b1, .slice A1 n1 c1, .slice B1 m1 d1] 27))
  have z1 := z1.below (below_alloc w1 (.cells #[.bool b1, .slice A1 n1 c1, .slice B1 m1 d1] 27))
  have k1 := Bq.new w1 (w1.heap.size) (by simp) (.bool b1) (.slice A1 n1 c1) (.slice B1 m1 d1)
  have B0 := B0.trans ((below_alloc w1 (.cells #[.bool b1, .slice A1 n1 c1, .slice B1 m1 d1] 27)).mono B0.size)
  have d1' := z1.parts.2
  obtain ⟨p1, n1', e1, _⟩ := z1.parts.1.parts
  have hx := RatN.roundQ_s x b1 p1 e1
  have hp : 0 < 2 * x.den := by have := x.den_pos; omega
  have HX := Lib.hid hx
  have HP := Lib.hid hp
  clear e1 hx hp z1
  have k1_0 := k1.c0
  have k1_1 := k1.c1
  have k1_2 := k1.c2
  have kr_0 := kr.1
  have kr_1 := kr.2.1
  have kr_2 := kr.2.2.1
  have kr_3 := kr.2.2.2
  go_wp2_with fail
  refine (rof_z' 2 2 rfl (by decide)).mono ?_
  clear k1_0 k1_1 k1_2 kr_0 kr_1 kr_2 kr_3
  rintro e w2 ⟨v2, rfl, z2, bb⟩
  have kr := kr.below bb
  have k1 := k1.below bb
  have d1' := d1'.below bb
  have n1' := n1'.below bb
  have B0 := B0.trans (bb.mono B0.size)
  clear bb
  obtain ⟨A2, n2, c2, rfl, _, _⟩ := z2.nm.form
  go_wp2_with fail
  have kr := kr.drew
  have k1 := k1.drew
  have d1' := d1'.drew
  have n1' := n1'.drew
  have z2 := z2.drew
  have B0 := b_drew B0
  go_region_held3 (fun w' => w'.cell? ⟨w1.heap.size, 0, none⟩ = some (.bool b1) ∧ w'.cell? ⟨w1.heap.size, 1, none⟩ = some (.slice A1 n1 c1) ∧ w'.cell? ⟨w1.heap.size, 2, none⟩ = some (.slice B1 m1 d1)) (first | with_reducible exact ⟨k1.c0, k1.c1, k1.c2⟩ | with_reducible exact ⟨(k1.ret (r := w.heap.size + 1) (by omega) _ _).c0, (k1.ret (r := w.heap.size + 1) (by omega) _ _).c1, (k1.ret (r := w.heap.size + 1) (by omega) _ _).c2⟩)
    (first
      | (go_at_call 41; (with_reducible refine (rmul_e z2.nm n1'.nm ?_ ?_).mono ?_); omega; omega; rintro e w3 ⟨v5, rfl, z5, bb⟩; have kr := kr.below bb; have k1 := k1.below bb; have d1' := d1'.below bb; have n1' := n1'.below bb; have z2 := z2.below bb; have B0 := B0.trans (bb.mono B0.size); clear bb; obtain ⟨A5, n5, c5, rfl, _, _⟩ := z5.nm.form)
      | (go_at_call 64; (with_reducible refine (radd_e z5.nm d1'.nm ?_ ?_).mono ?_); omega; omega; rintro e w4 ⟨v6, rfl, z6, bb⟩; have kr := kr.below bb; have k1 := k1.below bb; have d1' := d1'.below bb; have n1' := n1'.below bb; have z2 := z2.below bb; have z5 := z5.below bb; have B0 := B0.trans (bb.mono B0.size); clear bb; obtain ⟨A6, n6, c6, rfl, _, _⟩ := z6.nm.form)
      | (go_at_call 41; (with_reducible refine (rmul_e z2.nm d1'.nm ?_ ?_).mono ?_); omega; omega; rintro e w5 ⟨v7, rfl, z7, bb⟩; have kr := kr.below bb; have k1 := k1.below bb; have d1' := d1'.below bb; have n1' := n1'.below bb; have z2 := z2.below bb; have z5 := z5.below bb; have z6 := z6.below bb; have B0 := B0.trans (bb.mono B0.size); clear bb; obtain ⟨A7, n7, c7, rfl, _, _⟩ := z7.nm.form)
      | (go_at_call 63; (with_reducible refine (rdiv_n z6.nm z7.nm ?_ ?_ HP.out).mono ?_); omega; omega; rintro e w6 ⟨v8, v9, rfl, z8, z9, bb⟩; have kr := kr.below bb; have k1 := k1.below bb; have d1' := d1'.below bb; have n1' := n1'.below bb; have z2 := z2.below bb; have z5 := z5.below bb; have z6 := z6.below bb; have z7 := z7.below bb; have B0 := B0.trans (bb.mono B0.size); clear bb; obtain ⟨A8, n8, c8, rfl, _, _⟩ := z8.nm.form; clear z9))
  have k1_0 := k1.c0
  have k1_1 := k1.c1
  have k1_2 := k1.c2
  have kr_0 := kr.1
  have kr_1 := kr.2.1
  have kr_2 := kr.2.2.1
  have kr_3 := kr.2.2.2
  go_wp2_with fail
  refine (rnorm_i (z8.nm.iv b1) (by omega)).mono ?_
  clear k1_0 k1_1 k1_2 kr_0 kr_1 kr_2 kr_3
  rintro e w21 ⟨v5, rfl, z5, bb⟩
  have kr := kr.below bb
  have k1 := k1.below bb
  have z8 := z8.below bb
  have B0 := B0.trans (bb.mono B0.size)
  clear bb
  rw [HX.out] at z5
  obtain ⟨b5, A5, n5, c5, rfl, z5⟩ := z5.cells
  have k1_0 := k1.c0
  have k1_1 := k1.c1
  have k1_2 := k1.c2
  have kr_0 := kr.1
  have kr_1 := kr.2.1
  have kr_2 := kr.2.2.1
  have kr_3 := kr.2.2.2
  go_wp2
  refine bodyPost_ret (v := .agg #[.bool b5, .slice A5 n5 c5]) (by simp [results, Tryz.results31, go_sem, kr_0, kr_1]) rfl ⟨_, rfl, (z5.wide (by omega)).ret kr _ _, below_ret B0 (by omega) _ _⟩
end Go.Proofs.YtfdildganfjahaaGreatDoor
