/-
  The walks of package ratio, without Text and Parse.
-/
import Derived.Test.YtohlilgnognmgaaGreatDoorRatM
import Derived.Test.YtohlilgnognmgaaGreatDoorRatK
namespace Go.Proofs.YtohlilgnognmgaaGreatDoor
open Go.RowKit
attribute [local go_sem ↓] Go.wp_at_zero Go.wp_at_succ
set_option linter.unusedVariables false

theorem iszero_n {w : World} {v : Value} {m k : Nat} (h : Nm w v m k) (b : Bool) (hb : decide (m = 0) = b) : Calls Tryz.prog 75 #[v] w (BoolEnd b w) := by
  obtain ⟨A, n, c, rfl, _, _⟩ := h.form
  rcases Nat.eq_zero_or_pos m with h0 | h0
  · subst h0
    obtain rfl : true = b := hb
    go_enter Tryz.func75, Tryz.ntmps75
    go_wp2_with fail
    refine (cmp_n h (Nm.nil _) 0 rfl).mono ?_
    rintro e w1 ⟨rfl, bb⟩
    go_wp2
    go_ret
    exact ⟨rfl, bb⟩
  · obtain rfl : false = b := by rw [← hb]; exact (decide_eq_false (by omega)).symm
    clear hb
    have H := Lib.hid (cmpI_gt h0)
    clear h0
    go_enter Tryz.func75, Tryz.ntmps75
    go_wp2_with fail
    refine (cmp_n h (Nm.nil _) 1 H.out).mono ?_
    rintro e w1 ⟨rfl, bb⟩
    go_wp2
    go_ret
    exact ⟨rfl, bb⟩
set_option maxRecDepth 20000 in
set_option maxHeartbeats 2000000 in
theorem parts_0 {w : World} {b : Bool} {A : Option Addr} {n c : Nat} {B : Option Addr} {m c' k j d : Nat} {z : Int} (hn : Iv w (.agg #[.bool b, .slice A n c]) z k) (hd : Nm w (.slice B m c') d j) (h0 : d = 0) : Calls Tryz.prog 39 #[.agg #[.bool b, .slice A n c, .slice B m c']] w (PEnd 0 1 k (max j 2) w) := by
  subst h0
  have B0 := below_a3 w (.cells #[.bool b, .slice A n c, .slice B m c'] 27) (.cells #[.bool false, .slice none 0 0] 25) (.cells #[.bool false, .slice none 0 0] 25)
  have hn := hn.below B0
  have hd := hd.below B0
  have ka := (((Bq.new w (w.heap.size) (by simp) (.bool b) (.slice A n c) (.slice B m c')).below (below_alloc (w.alloc (.cells #[.bool b, .slice A n c, .slice B m c'] 27)) (.cells #[.bool false, .slice none 0 0] 25))).below (below_alloc ((w.alloc (.cells #[.bool b, .slice A n c, .slice B m c'] 27)).alloc (.cells #[.bool false, .slice none 0 0] 25)) (.cells #[.bool false, .slice none 0 0] 25)))
  have kn := ((Rx.new (w.alloc (.cells #[.bool b, .slice A n c, .slice B m c'] 27)) (w.heap.size + 1) (by simp)).below (below_alloc ((w.alloc (.cells #[.bool b, .slice A n c, .slice B m c'] 27)).alloc (.cells #[.bool false, .slice none 0 0] 25)) (.cells #[.bool false, .slice none 0 0] 25)))
  have kd := (Rx.new ((w.alloc (.cells #[.bool b, .slice A n c, .slice B m c'] 27)).alloc (.cells #[.bool false, .slice none 0 0] 25)) (w.heap.size + 1 + 1) (by simp))
  go_enter Tryz.func39, Tryz.ntmps39
  have ka_0 := ka.c0
  have ka_1 := ka.c1
  have ka_2 := ka.c2
  have kn_0 := kn.1
  have kn_1 := kn.2.1
  have kn_2 := kn.2.2.1
  have kn_3 := kn.2.2.2
  have kd_0 := kd.1
  have kd_1 := kd.2.1
  have kd_2 := kd.2.2.1
  have kd_3 := kd.2.2.2
  go_wp2_with fail
  refine (iszero_n hd true rfl).mono ?_
  clear ka_0 ka_1 ka_2 kn_0 kn_1 kn_2 kn_3 kd_0 kd_1 kd_2 kd_3
  rintro e w1 ⟨rfl, bb⟩
  have hn := hn.below bb
  have hd := hd.below bb
  have ka := ka.below bb
  have kn := kn.below bb
  have kd := kd.below bb
  have B0 := B0.trans (bb.mono B0.size)
  clear bb
  have ka_0 := ka.c0
  have ka_1 := ka.c1
  have ka_2 := ka.c2
  have kn_0 := kn.1
  have kn_1 := kn.2.1
  have kn_2 := kn.2.2.1
  have kn_3 := kn.2.2.2
  have kd_0 := kd.1
  have kd_1 := kd.2.1
  have kd_2 := kd.2.2.1
  have kd_3 := kd.2.2.2
  go_wp2_with fail
  refine (iof_i 1 (by decide) (by decide) _).mono ?_
  clear ka_0 ka_1 ka_2 kn_0 kn_1 kn_2 kn_3 kd_0 kd_1 kd_2 kd_3
  rintro e w2 ⟨vr, rfl, zr, bb⟩
  have hn := hn.below bb
  have hd := hd.below bb
  have ka := ka.below bb
  have kn := kn.below bb
  have kd := kd.below bb
  have B0 := B0.trans (bb.mono B0.size)
  clear bb
  obtain ⟨br, Ar, nr, cr, rfl, zr⟩ := zr.cells
  have ka_0 := ka.c0
  have ka_1 := ka.c1
  have ka_2 := ka.c2
  have kn_0 := kn.1
  have kn_1 := kn.2.1
  have kn_2 := kn.2.2.1
  have kn_3 := kn.2.2.2
  have kd_0 := kd.1
  have kd_1 := kd.2.1
  have kd_2 := kd.2.2.1
  have kd_3 := kd.2.2.2
  go_wp2
  refine bodyPost_ret (v := .tuple #[.agg #[.bool false, .slice none 0 0], .agg #[.bool br, .slice Ar nr cr]]) (by simp [results, Tryz.results39, go_sem, kn_0, kn_1, kd_0, kd_1]) rfl ⟨_, _, _, _, _, _, _, _, rfl, zero_iv _ _, ((zr.iv.wide (by omega)).ret kn _ _).ret (kd.ret (by omega) _ _) _ _, below_ret (below_ret B0 (by omega) _ _) (by omega) _ _⟩
set_option maxRecDepth 20000 in
set_option maxHeartbeats 2000000 in
theorem parts_p {w : World} {b : Bool} {A : Option Addr} {n c : Nat} {B : Option Addr} {m c' k j d : Nat} {z : Int} (hn : Iv w (.agg #[.bool b, .slice A n c]) z k) (hd : Nm w (.slice B m c') d j) (h0 : d ≠ 0) : Calls Tryz.prog 39 #[.agg #[.bool b, .slice A n c, .slice B m c']] w (PEnd z d k (max j 2) w) := by
  have H := Lib.hid (decide_eq_false h0)
  clear h0
  have B0 := below_a3 w (.cells #[.bool b, .slice A n c, .slice B m c'] 27) (.cells #[.bool false, .slice none 0 0] 25) (.cells #[.bool false, .slice none 0 0] 25)
  have hn := hn.below B0
  have hd := hd.below B0
  have ka := (((Bq.new w (w.heap.size) (by simp) (.bool b) (.slice A n c) (.slice B m c')).below (below_alloc (w.alloc (.cells #[.bool b, .slice A n c, .slice B m c'] 27)) (.cells #[.bool false, .slice none 0 0] 25))).below (below_alloc ((w.alloc (.cells #[.bool b, .slice A n c, .slice B m c'] 27)).alloc (.cells #[.bool false, .slice none 0 0] 25)) (.cells #[.bool false, .slice none 0 0] 25)))
  have kn := ((Rx.new (w.alloc (.cells #[.bool b, .slice A n c, .slice B m c'] 27)) (w.heap.size + 1) (by simp)).below (below_alloc ((w.alloc (.cells #[.bool b, .slice A n c, .slice B m c'] 27)).alloc (.cells #[.bool false, .slice none 0 0] 25)) (.cells #[.bool false, .slice none 0 0] 25)))
  have kd := (Rx.new ((w.alloc (.cells #[.bool b, .slice A n c, .slice B m c'] 27)).alloc (.cells #[.bool false, .slice none 0 0] 25)) (w.heap.size + 1 + 1) (by simp))
  go_enter Tryz.func39, Tryz.ntmps39
  have ka_0 := ka.c0
  have ka_1 := ka.c1
  have ka_2 := ka.c2
  have kn_0 := kn.1
  have kn_1 := kn.2.1
  have kn_2 := kn.2.2.1
  have kn_3 := kn.2.2.2
  have kd_0 := kd.1
  have kd_1 := kd.2.1
  have kd_2 := kd.2.2.1
  have kd_3 := kd.2.2.2
  go_wp2_with fail
  refine (iszero_n hd false H.out).mono ?_
  clear ka_0 ka_1 ka_2 kn_0 kn_1 kn_2 kn_3 kd_0 kd_1 kd_2 kd_3
  rintro e w1 ⟨rfl, bb⟩
  have hn := hn.below bb
  have hd := hd.below bb
  have ka := ka.below bb
  have kn := kn.below bb
  have kd := kd.below bb
  have B0 := B0.trans (bb.mono B0.size)
  clear bb
  have ka_0 := ka.c0
  have ka_1 := ka.c1
  have ka_2 := ka.c2
  have kn_0 := kn.1
  have kn_1 := kn.2.1
  have kn_2 := kn.2.2.1
  have kn_3 := kn.2.2.2
  have kd_0 := kd.1
  have kd_1 := kd.2.1
  have kd_2 := kd.2.2.1
  have kd_3 := kd.2.2.2
  go_wp2_with fail
  go_region
  go_wp2
  refine bodyPost_ret (v := .tuple #[.agg #[.bool b, .slice A n c], .agg #[.bool false, .slice B m c']]) (by simp [results, Tryz.results39, go_sem, kn_0, kn_1, kd_0, kd_1]) rfl ⟨_, _, _, _, _, _, _, _, rfl, ((hn.ret kn _ _).ret (kd.ret (by omega) _ _) _ _).drew, ((((hd.iv false).wide (by omega)).ret kn _ _).ret (kd.ret (by omega) _ _) _ _).drew, b_drew (below_ret (below_ret B0 (by omega) _ _) (by omega) _ _)⟩
theorem parts_q {w : World} {v : Value} {z : Int} {d k j : Nat} (h : Qp w v z d k j) : Calls Tryz.prog 39 #[v] w (PEnd z d k (max j 2) w) := by
  obtain ⟨b, A, n, c, B, m, c', z0, d0, rfl, h1, h2, rfl, rfl⟩ := h
  by_cases h0 : d0 = 0
  · rw [if_pos h0, if_pos h0]; exact parts_0 h1 h2 h0
  · rw [if_neg h0, if_neg h0]; exact parts_p h1 h2 h0
set_option maxRecDepth 20000 in
set_option maxHeartbeats 2000000 in
theorem cross_q {w : World} {va vb : Value} {z y : Int} {d e k j k' j' : Nat} (ha : Qp w va z d k j) (hb : Qp w vb y e k' j') (h1 : k ≤ 300) (h2 : k' ≤ 300) (h3 : j ≤ 300) (h4 : j' ≤ 300) : Calls Tryz.prog 38 #[va, vb] w (PEnd (z * (e : Int)) (y * (d : Int)) (k + max j' 2) (k' + max j 2) w) := by
  obtain ⟨ba, Aa, na, ca, Ba, ma, da, rfl, ha⟩ := ha.cells
  obtain ⟨bb', Ab, nb, cb, Bb, mb, db, rfl, hb⟩ := hb.cells
  have B0 := below_a4 w (.cells #[.bool ba, .slice Aa na ca, .slice Ba ma da] 27) (.cells #[.bool bb', .slice Ab nb cb, .slice Bb mb db] 27) (.cells #[.bool false, .slice none 0 0] 25) (.cells #[.bool false, .slice none 0 0] 25)
  have ha := ha.below B0
  have hb := hb.below B0
  have ka := ((((Bq.new w (w.heap.size) (by simp) (.bool ba) (.slice Aa na ca) (.slice Ba ma da)).below (below_alloc (w.alloc (.cells #[.bool ba, .slice Aa na ca, .slice Ba ma da] 27)) (.cells #[.bool bb', .slice Ab nb cb, .slice Bb mb db] 27))).below (below_alloc ((w.alloc (.cells #[.bool ba, .slice Aa na ca, .slice Ba ma da] 27)).alloc (.cells #[.bool bb', .slice Ab nb cb, .slice Bb mb db] 27)) (.cells #[.bool false, .slice none 0 0] 25))).below (below_alloc (((w.alloc (.cells #[.bool ba, .slice Aa na ca, .slice Ba ma da] 27)).alloc (.cells #[.bool bb', .slice Ab nb cb, .slice Bb mb db] 27)).alloc (.cells #[.bool false, .slice none 0 0] 25)) (.cells #[.bool false, .slice none 0 0] 25)))
  have kb := (((Bq.new (w.alloc (.cells #[.bool ba, .slice Aa na ca, .slice Ba ma da] 27)) (w.heap.size + 1) (by simp) (.bool bb') (.slice Ab nb cb) (.slice Bb mb db)).below (below_alloc ((w.alloc (.cells #[.bool ba, .slice Aa na ca, .slice Ba ma da] 27)).alloc (.cells #[.bool bb', .slice Ab nb cb, .slice Bb mb db] 27)) (.cells #[.bool false, .slice none 0 0] 25))).below (below_alloc (((w.alloc (.cells #[.bool ba, .slice Aa na ca, .slice Ba ma da] 27)).alloc (.cells #[.bool bb', .slice Ab nb cb, .slice Bb mb db] 27)).alloc (.cells #[.bool false, .slice none 0 0] 25)) (.cells #[.bool false, .slice none 0 0] 25)))
  have k1 := ((Rx.new ((w.alloc (.cells #[.bool ba, .slice Aa na ca, .slice Ba ma da] 27)).alloc (.cells #[.bool bb', .slice Ab nb cb, .slice Bb mb db] 27)) (w.heap.size + 1 + 1) (by simp)).below (below_alloc (((w.alloc (.cells #[.bool ba, .slice Aa na ca, .slice Ba ma da] 27)).alloc (.cells #[.bool bb', .slice Ab nb cb, .slice Bb mb db] 27)).alloc (.cells #[.bool false, .slice none 0 0] 25)) (.cells #[.bool false, .slice none 0 0] 25)))
  have k2 := (Rx.new (((w.alloc (.cells #[.bool ba, .slice Aa na ca, .slice Ba ma da] 27)).alloc (.cells #[.bool bb', .slice Ab nb cb, .slice Bb mb db] 27)).alloc (.cells #[.bool false, .slice none 0 0] 25)) (w.heap.size + 1 + 1 + 1) (by simp))
  go_enter Tryz.func38, Tryz.ntmps38
  have ka_0 := ka.c0
  have ka_1 := ka.c1
  have ka_2 := ka.c2
  have kb_0 := kb.c0
  have kb_1 := kb.c1
  have kb_2 := kb.c2
  have k1_0 := k1.1
  have k1_1 := k1.2.1
  have k1_2 := k1.2.2.1
  have k1_3 := k1.2.2.2
  have k2_0 := k2.1
  have k2_1 := k2.2.1
  have k2_2 := k2.2.2.1
  have k2_3 := k2.2.2.2
  go_wp2_with fail
  refine (parts_q ha).mono ?_
  clear ka_0 ka_1 ka_2 kb_0 kb_1 kb_2 k1_0 k1_1 k1_2 k1_3 k2_0 k2_1 k2_2 k2_3
  rintro e w1 ⟨b1, A1, n1, c1, b2, A2, n2, c2, rfl, p1, p2, bb⟩
  have ha := ha.below bb
  have hb := hb.below bb
  have ka := ka.below bb
  have kb := kb.below bb
  have k1 := k1.below bb
  have k2 := k2.below bb
  have B0 := B0.trans (bb.mono B0.size)
  clear bb
  have lk1_w1 := k1.apart.1
  have lk2_w1 := k2.apart.1
  have hb := hb.below (below_alloc w1 (.cells #[.bool b1, .slice A1 n1 c1] 25))
  have kb := kb.below (below_alloc w1 (.cells #[.bool b1, .slice A1 n1 c1] 25))
  have k1 := k1.below (below_alloc w1 (.cells #[.bool b1, .slice A1 n1 c1] 25))
  have k2 := k2.below (below_alloc w1 (.cells #[.bool b1, .slice A1 n1 c1] 25))
  have p1 := p1.below (below_alloc w1 (.cells #[.bool b1, .slice A1 n1 c1] 25))
  have p2 := p2.below (below_alloc w1 (.cells #[.bool b1, .slice A1 n1 c1] 25))
  have kn1 := Bx.new w1 (w1.heap.size) (by simp) (.bool b1) (.slice A1 n1 c1)
  have B0 := B0.trans ((below_alloc w1 (.cells #[.bool b1, .slice A1 n1 c1] 25)).mono B0.size)
  have hb := hb.below (below_alloc (w1.alloc (.cells #[.bool b1, .slice A1 n1 c1] 25)) (.cells #[.bool b2, .slice A2 n2 c2] 25))
  have kb := kb.below (below_alloc (w1.alloc (.cells #[.bool b1, .slice A1 n1 c1] 25)) (.cells #[.bool b2, .slice A2 n2 c2] 25))
  have k1 := k1.below (below_alloc (w1.alloc (.cells #[.bool b1, .slice A1 n1 c1] 25)) (.cells #[.bool b2, .slice A2 n2 c2] 25))
  have k2 := k2.below (below_alloc (w1.alloc (.cells #[.bool b1, .slice A1 n1 c1] 25)) (.cells #[.bool b2, .slice A2 n2 c2] 25))
  have p1 := p1.below (below_alloc (w1.alloc (.cells #[.bool b1, .slice A1 n1 c1] 25)) (.cells #[.bool b2, .slice A2 n2 c2] 25))
  have p2 := p2.below (below_alloc (w1.alloc (.cells #[.bool b1, .slice A1 n1 c1] 25)) (.cells #[.bool b2, .slice A2 n2 c2] 25))
  have kn1 := kn1.below (below_alloc (w1.alloc (.cells #[.bool b1, .slice A1 n1 c1] 25)) (.cells #[.bool b2, .slice A2 n2 c2] 25))
  have kd1 := Bx.new (w1.alloc (.cells #[.bool b1, .slice A1 n1 c1] 25)) (w1.heap.size + 1) (by simp) (.bool b2) (.slice A2 n2 c2)
  have B0 := B0.trans ((below_alloc (w1.alloc (.cells #[.bool b1, .slice A1 n1 c1] 25)) (.cells #[.bool b2, .slice A2 n2 c2] 25)).mono B0.size)
  have kb_0 := kb.c0
  have kb_1 := kb.c1
  have kb_2 := kb.c2
  have kn1_0 := kn1.c0
  have kn1_1 := kn1.c1
  have kd1_0 := kd1.c0
  have kd1_1 := kd1.c1
  have k1_0 := k1.1
  have k1_1 := k1.2.1
  have k1_2 := k1.2.2.1
  have k1_3 := k1.2.2.2
  have k2_0 := k2.1
  have k2_1 := k2.2.1
  have k2_2 := k2.2.2.1
  have k2_3 := k2.2.2.2
  go_wp2_with fail
  refine (parts_q hb).mono ?_
  clear kb_0 kb_1 kb_2 kn1_0 kn1_1 kd1_0 kd1_1 k1_0 k1_1 k1_2 k1_3 k2_0 k2_1 k2_2 k2_3
  rintro e w2 ⟨b3, A3, n3, c3, b4, A4, n4, c4, rfl, p3, p4, bb⟩
  have hb := hb.below bb
  have kb := kb.below bb
  have k1 := k1.below bb
  have k2 := k2.below bb
  have p1 := p1.below bb
  have p2 := p2.below bb
  have kn1 := kn1.below bb
  have kd1 := kd1.below bb
  have B0 := B0.trans (bb.mono B0.size)
  clear bb
  have lk1_w2 := k1.apart.1
  have lk2_w2 := k2.apart.1
  have k1 := k1.below (below_alloc w2 (.cells #[.bool b3, .slice A3 n3 c3] 25))
  have k2 := k2.below (below_alloc w2 (.cells #[.bool b3, .slice A3 n3 c3] 25))
  have p1 := p1.below (below_alloc w2 (.cells #[.bool b3, .slice A3 n3 c3] 25))
  have p2 := p2.below (below_alloc w2 (.cells #[.bool b3, .slice A3 n3 c3] 25))
  have kn1 := kn1.below (below_alloc w2 (.cells #[.bool b3, .slice A3 n3 c3] 25))
  have kd1 := kd1.below (below_alloc w2 (.cells #[.bool b3, .slice A3 n3 c3] 25))
  have p3 := p3.below (below_alloc w2 (.cells #[.bool b3, .slice A3 n3 c3] 25))
  have p4 := p4.below (below_alloc w2 (.cells #[.bool b3, .slice A3 n3 c3] 25))
  have kn2 := Bx.new w2 (w2.heap.size) (by simp) (.bool b3) (.slice A3 n3 c3)
  have B0 := B0.trans ((below_alloc w2 (.cells #[.bool b3, .slice A3 n3 c3] 25)).mono B0.size)
  have k1 := k1.below (below_alloc (w2.alloc (.cells #[.bool b3, .slice A3 n3 c3] 25)) (.cells #[.bool b4, .slice A4 n4 c4] 25))
  have k2 := k2.below (below_alloc (w2.alloc (.cells #[.bool b3, .slice A3 n3 c3] 25)) (.cells #[.bool b4, .slice A4 n4 c4] 25))
  have p1 := p1.below (below_alloc (w2.alloc (.cells #[.bool b3, .slice A3 n3 c3] 25)) (.cells #[.bool b4, .slice A4 n4 c4] 25))
  have p2 := p2.below (below_alloc (w2.alloc (.cells #[.bool b3, .slice A3 n3 c3] 25)) (.cells #[.bool b4, .slice A4 n4 c4] 25))
  have kn1 := kn1.below (below_alloc (w2.alloc (.cells #[.bool b3, .slice A3 n3 c3] 25)) (.cells #[.bool b4, .slice A4 n4 c4] 25))
  have kd1 := kd1.below (below_alloc (w2.alloc (.cells #[.bool b3, .slice A3 n3 c3] 25)) (.cells #[.bool b4, .slice A4 n4 c4] 25))
  have p3 := p3.below (below_alloc (w2.alloc (.cells #[.bool b3, .slice A3 n3 c3] 25)) (.cells #[.bool b4, .slice A4 n4 c4] 25))
  have p4 := p4.below (below_alloc (w2.alloc (.cells #[.bool b3, .slice A3 n3 c3] 25)) (.cells #[.bool b4, .slice A4 n4 c4] 25))
  have kn2 := kn2.below (below_alloc (w2.alloc (.cells #[.bool b3, .slice A3 n3 c3] 25)) (.cells #[.bool b4, .slice A4 n4 c4] 25))
  have kd2 := Bx.new (w2.alloc (.cells #[.bool b3, .slice A3 n3 c3] 25)) (w2.heap.size + 1) (by simp) (.bool b4) (.slice A4 n4 c4)
  have B0 := B0.trans ((below_alloc (w2.alloc (.cells #[.bool b3, .slice A3 n3 c3] 25)) (.cells #[.bool b4, .slice A4 n4 c4] 25)).mono B0.size)
  go_wp2_with fail
  have k1 := k1.drew
  have k2 := k2.drew
  have p1 := p1.drew
  have p2 := p2.drew
  have kn1 := kn1.drew
  have kd1 := kd1.drew
  have p3 := p3.drew
  have p4 := p4.drew
  have kn2 := kn2.drew
  have kd2 := kd2.drew
  have B0 := b_drew B0
  go_region_held3 (fun w' => w'.cell? ⟨w1.heap.size, 0, none⟩ = some (.bool b1) ∧ w'.cell? ⟨w1.heap.size, 1, none⟩ = some (.slice A1 n1 c1) ∧ w'.cell? ⟨w1.heap.size + 1, 0, none⟩ = some (.bool b2) ∧ w'.cell? ⟨w1.heap.size + 1, 1, none⟩ = some (.slice A2 n2 c2) ∧ w'.cell? ⟨w2.heap.size, 0, none⟩ = some (.bool b3) ∧ w'.cell? ⟨w2.heap.size, 1, none⟩ = some (.slice A3 n3 c3) ∧ w'.cell? ⟨w2.heap.size + 1, 0, none⟩ = some (.bool b4) ∧ w'.cell? ⟨w2.heap.size + 1, 1, none⟩ = some (.slice A4 n4 c4)) (first | with_reducible exact ⟨kn1.c0, kn1.c1, kd1.c0, kd1.c1, kn2.c0, kn2.c1, kd2.c0, kd2.c1⟩ | with_reducible exact ⟨(kn1.ret (r := w.heap.size + 1 + 1) (by omega) _ _).c0, (kn1.ret (r := w.heap.size + 1 + 1) (by omega) _ _).c1, (kd1.ret (r := w.heap.size + 1 + 1) (by omega) _ _).c0, (kd1.ret (r := w.heap.size + 1 + 1) (by omega) _ _).c1, (kn2.ret (r := w.heap.size + 1 + 1) (by omega) _ _).c0, (kn2.ret (r := w.heap.size + 1 + 1) (by omega) _ _).c1, (kd2.ret (r := w.heap.size + 1 + 1) (by omega) _ _).c0, (kd2.ret (r := w.heap.size + 1 + 1) (by omega) _ _).c1⟩ | with_reducible exact ⟨((kn1.ret (r := w.heap.size + 1 + 1) (by omega) _ _).ret (r := w.heap.size + 1 + 1 + 1) (by omega) _ _).c0, ((kn1.ret (r := w.heap.size + 1 + 1) (by omega) _ _).ret (r := w.heap.size + 1 + 1 + 1) (by omega) _ _).c1, ((kd1.ret (r := w.heap.size + 1 + 1) (by omega) _ _).ret (r := w.heap.size + 1 + 1 + 1) (by omega) _ _).c0, ((kd1.ret (r := w.heap.size + 1 + 1) (by omega) _ _).ret (r := w.heap.size + 1 + 1 + 1) (by omega) _ _).c1, ((kn2.ret (r := w.heap.size + 1 + 1) (by omega) _ _).ret (r := w.heap.size + 1 + 1 + 1) (by omega) _ _).c0, ((kn2.ret (r := w.heap.size + 1 + 1) (by omega) _ _).ret (r := w.heap.size + 1 + 1 + 1) (by omega) _ _).c1, ((kd2.ret (r := w.heap.size + 1 + 1) (by omega) _ _).ret (r := w.heap.size + 1 + 1 + 1) (by omega) _ _).c0, ((kd2.ret (r := w.heap.size + 1 + 1) (by omega) _ _).ret (r := w.heap.size + 1 + 1 + 1) (by omega) _ _).c1⟩)
    (first
      | (go_at_call 44; (with_reducible refine (imul_i p1 p4 ?_ ?_).mono ?_); omega; omega; rintro e w3 ⟨v5, rfl, z5, bb⟩; have k1 := k1.below bb; have k2 := k2.below bb; have p1 := p1.below bb; have p2 := p2.below bb; have kn1 := kn1.below bb; have kd1 := kd1.below bb; have p3 := p3.below bb; have p4 := p4.below bb; have kn2 := kn2.below bb; have kd2 := kd2.below bb; have B0 := B0.trans (bb.mono B0.size); clear bb; obtain ⟨b5, A5, n5, c5, rfl, z5⟩ := z5.cells; have kn1_0 := kn1.c0; have kn1_1 := kn1.c1; have kd1_0 := kd1.c0; have kd1_1 := kd1.c1; have kn2_0 := kn2.c0; have kn2_1 := kn2.c1; have kd2_0 := kd2.c0; have kd2_1 := kd2.c1; have k1_0 := k1.1; have k1_1 := k1.2.1; have k1_2 := k1.2.2.1; have k1_3 := k1.2.2.2; have k2_0 := k2.1; have k2_1 := k2.2.1; have k2_2 := k2.2.2.1; have k2_3 := k2.2.2.2)
      | (go_at_call 44; (with_reducible refine (imul_i p3 p2 ?_ ?_).mono ?_); omega; omega; rintro e w4 ⟨v6, rfl, z6, bb⟩; have k1 := k1.below bb; have k2 := k2.below bb; have p1 := p1.below bb; have p2 := p2.below bb; have kn1 := kn1.below bb; have kd1 := kd1.below bb; have p3 := p3.below bb; have p4 := p4.below bb; have kn2 := kn2.below bb; have kd2 := kd2.below bb; have z5 := z5.below bb; have B0 := B0.trans (bb.mono B0.size); clear bb; obtain ⟨b6, A6, n6, c6, rfl, z6⟩ := z6.cells; have kn1_0 := kn1.c0; have kn1_1 := kn1.c1; have kd1_0 := kd1.c0; have kd1_1 := kd1.c1; have kn2_0 := kn2.c0; have kn2_1 := kn2.c1; have kd2_0 := kd2.c0; have kd2_1 := kd2.c1; have k1_0 := k1.1; have k1_1 := k1.2.1; have k1_2 := k1.2.2.1; have k1_3 := k1.2.2.2; have k2_0 := k2.1; have k2_1 := k2.2.1; have k2_2 := k2.2.2.1; have k2_3 := k2.2.2.2))
  go_wp2
  refine bodyPost_ret (v := .tuple #[.agg #[.bool b5, .slice A5 n5 c5], .agg #[.bool b6, .slice A6 n6 c6]]) (by simp [results, Tryz.results38, go_sem, k1_0, k1_1, k2_0, k2_1]) rfl ⟨_, _, _, _, _, _, _, _, rfl, (z5.iv.ret k1 _ _).ret (k2.ret (by omega) _ _) _ _, (z6.iv.ret k1 _ _).ret (k2.ret (by omega) _ _) _ _, below_ret (below_ret B0 (by omega) _ _) (by omega) _ _⟩
set_option maxRecDepth 20000 in
set_option maxHeartbeats 2000000 in
theorem denominator_q {w : World} {va vb : Value} {z y : Int} {d e k j k' j' : Nat} (ha : Qp w va z d k j) (hb : Qp w vb y e k' j') (h3 : j ≤ 300) (h4 : j' ≤ 300) : Calls Tryz.prog 45 #[va, vb] w (IEnd ((d : Int) * (e : Int)) (max j 2 + max j' 2) w) := by
  obtain ⟨ba, Aa, na, ca, Ba, ma, da, rfl, ha⟩ := ha.cells
  obtain ⟨bb', Ab, nb, cb, Bb, mb, db, rfl, hb⟩ := hb.cells
  have B0 := below_a3 w (.cells #[.bool ba, .slice Aa na ca, .slice Ba ma da] 27) (.cells #[.bool bb', .slice Ab nb cb, .slice Bb mb db] 27) (.cells #[.bool false, .slice none 0 0] 25)
  have ha := ha.below B0
  have hb := hb.below B0
  have ka := (((Bq.new w (w.heap.size) (by simp) (.bool ba) (.slice Aa na ca) (.slice Ba ma da)).below (below_alloc (w.alloc (.cells #[.bool ba, .slice Aa na ca, .slice Ba ma da] 27)) (.cells #[.bool bb', .slice Ab nb cb, .slice Bb mb db] 27))).below (below_alloc ((w.alloc (.cells #[.bool ba, .slice Aa na ca, .slice Ba ma da] 27)).alloc (.cells #[.bool bb', .slice Ab nb cb, .slice Bb mb db] 27)) (.cells #[.bool false, .slice none 0 0] 25)))
  have kb := ((Bq.new (w.alloc (.cells #[.bool ba, .slice Aa na ca, .slice Ba ma da] 27)) (w.heap.size + 1) (by simp) (.bool bb') (.slice Ab nb cb) (.slice Bb mb db)).below (below_alloc ((w.alloc (.cells #[.bool ba, .slice Aa na ca, .slice Ba ma da] 27)).alloc (.cells #[.bool bb', .slice Ab nb cb, .slice Bb mb db] 27)) (.cells #[.bool false, .slice none 0 0] 25)))
  have k1 := (Rx.new ((w.alloc (.cells #[.bool ba, .slice Aa na ca, .slice Ba ma da] 27)).alloc (.cells #[.bool bb', .slice Ab nb cb, .slice Bb mb db] 27)) (w.heap.size + 1 + 1) (by simp))
  go_enter Tryz.func45, Tryz.ntmps45
  have ka_0 := ka.c0
  have ka_1 := ka.c1
  have ka_2 := ka.c2
  have kb_0 := kb.c0
  have kb_1 := kb.c1
  have kb_2 := kb.c2
  have k1_0 := k1.1
  have k1_1 := k1.2.1
  have k1_2 := k1.2.2.1
  have k1_3 := k1.2.2.2
  go_wp2_with fail
  refine (parts_q ha).mono ?_
  clear ka_0 ka_1 ka_2 kb_0 kb_1 kb_2 k1_0 k1_1 k1_2 k1_3
  rintro e w1 ⟨b1, A1, n1, c1, b2, A2, n2, c2, rfl, p1, p2, bb⟩
  have ha := ha.below bb
  have hb := hb.below bb
  have ka := ka.below bb
  have kb := kb.below bb
  have k1 := k1.below bb
  have B0 := B0.trans (bb.mono B0.size)
  clear bb
  have lk1_w1 := k1.apart.1
  have hb := hb.below (below_alloc w1 (.cells #[.bool b1, .slice A1 n1 c1] 25))
  have kb := kb.below (below_alloc w1 (.cells #[.bool b1, .slice A1 n1 c1] 25))
  have k1 := k1.below (below_alloc w1 (.cells #[.bool b1, .slice A1 n1 c1] 25))
  have p2 := p2.below (below_alloc w1 (.cells #[.bool b1, .slice A1 n1 c1] 25))
  have kn1 := Bx.new w1 (w1.heap.size) (by simp) (.bool b1) (.slice A1 n1 c1)
  have B0 := B0.trans ((below_alloc w1 (.cells #[.bool b1, .slice A1 n1 c1] 25)).mono B0.size)
  have hb := hb.below (below_alloc (w1.alloc (.cells #[.bool b1, .slice A1 n1 c1] 25)) (.cells #[.bool b2, .slice A2 n2 c2] 25))
  have kb := kb.below (below_alloc (w1.alloc (.cells #[.bool b1, .slice A1 n1 c1] 25)) (.cells #[.bool b2, .slice A2 n2 c2] 25))
  have k1 := k1.below (below_alloc (w1.alloc (.cells #[.bool b1, .slice A1 n1 c1] 25)) (.cells #[.bool b2, .slice A2 n2 c2] 25))
  have p2 := p2.below (below_alloc (w1.alloc (.cells #[.bool b1, .slice A1 n1 c1] 25)) (.cells #[.bool b2, .slice A2 n2 c2] 25))
  have kn1 := kn1.below (below_alloc (w1.alloc (.cells #[.bool b1, .slice A1 n1 c1] 25)) (.cells #[.bool b2, .slice A2 n2 c2] 25))
  have kd1 := Bx.new (w1.alloc (.cells #[.bool b1, .slice A1 n1 c1] 25)) (w1.heap.size + 1) (by simp) (.bool b2) (.slice A2 n2 c2)
  have B0 := B0.trans ((below_alloc (w1.alloc (.cells #[.bool b1, .slice A1 n1 c1] 25)) (.cells #[.bool b2, .slice A2 n2 c2] 25)).mono B0.size)
  have kb_0 := kb.c0
  have kb_1 := kb.c1
  have kb_2 := kb.c2
  have kn1_0 := kn1.c0
  have kn1_1 := kn1.c1
  have kd1_0 := kd1.c0
  have kd1_1 := kd1.c1
  have k1_0 := k1.1
  have k1_1 := k1.2.1
  have k1_2 := k1.2.2.1
  have k1_3 := k1.2.2.2
  go_wp2_with fail
  refine (parts_q hb).mono ?_
  clear kb_0 kb_1 kb_2 kn1_0 kn1_1 kd1_0 kd1_1 k1_0 k1_1 k1_2 k1_3
  rintro e w2 ⟨b3, A3, n3, c3, b4, A4, n4, c4, rfl, p3, p4, bb⟩
  have hb := hb.below bb
  have kb := kb.below bb
  have k1 := k1.below bb
  have p2 := p2.below bb
  have kn1 := kn1.below bb
  have kd1 := kd1.below bb
  have B0 := B0.trans (bb.mono B0.size)
  clear bb
  have lk1_w2 := k1.apart.1
  have k1 := k1.below (below_alloc w2 (.cells #[.bool b3, .slice A3 n3 c3] 25))
  have p2 := p2.below (below_alloc w2 (.cells #[.bool b3, .slice A3 n3 c3] 25))
  have kn1 := kn1.below (below_alloc w2 (.cells #[.bool b3, .slice A3 n3 c3] 25))
  have kd1 := kd1.below (below_alloc w2 (.cells #[.bool b3, .slice A3 n3 c3] 25))
  have p4 := p4.below (below_alloc w2 (.cells #[.bool b3, .slice A3 n3 c3] 25))
  have kn2 := Bx.new w2 (w2.heap.size) (by simp) (.bool b3) (.slice A3 n3 c3)
  have B0 := B0.trans ((below_alloc w2 (.cells #[.bool b3, .slice A3 n3 c3] 25)).mono B0.size)
  have k1 := k1.below (below_alloc (w2.alloc (.cells #[.bool b3, .slice A3 n3 c3] 25)) (.cells #[.bool b4, .slice A4 n4 c4] 25))
  have p2 := p2.below (below_alloc (w2.alloc (.cells #[.bool b3, .slice A3 n3 c3] 25)) (.cells #[.bool b4, .slice A4 n4 c4] 25))
  have kn1 := kn1.below (below_alloc (w2.alloc (.cells #[.bool b3, .slice A3 n3 c3] 25)) (.cells #[.bool b4, .slice A4 n4 c4] 25))
  have kd1 := kd1.below (below_alloc (w2.alloc (.cells #[.bool b3, .slice A3 n3 c3] 25)) (.cells #[.bool b4, .slice A4 n4 c4] 25))
  have p4 := p4.below (below_alloc (w2.alloc (.cells #[.bool b3, .slice A3 n3 c3] 25)) (.cells #[.bool b4, .slice A4 n4 c4] 25))
  have kn2 := kn2.below (below_alloc (w2.alloc (.cells #[.bool b3, .slice A3 n3 c3] 25)) (.cells #[.bool b4, .slice A4 n4 c4] 25))
  have kd2 := Bx.new (w2.alloc (.cells #[.bool b3, .slice A3 n3 c3] 25)) (w2.heap.size + 1) (by simp) (.bool b4) (.slice A4 n4 c4)
  have B0 := B0.trans ((below_alloc (w2.alloc (.cells #[.bool b3, .slice A3 n3 c3] 25)) (.cells #[.bool b4, .slice A4 n4 c4] 25)).mono B0.size)
  have kn1_0 := kn1.c0
  have kn1_1 := kn1.c1
  have kd1_0 := kd1.c0
  have kd1_1 := kd1.c1
  have kn2_0 := kn2.c0
  have kn2_1 := kn2.c1
  have kd2_0 := kd2.c0
  have kd2_1 := kd2.c1
  have k1_0 := k1.1
  have k1_1 := k1.2.1
  have k1_2 := k1.2.2.1
  have k1_3 := k1.2.2.2
  go_wp2_with fail
  refine (imul_i p2 p4 (by omega) (by omega)).mono ?_
  clear kn1_0 kn1_1 kd1_0 kd1_1 kn2_0 kn2_1 kd2_0 kd2_1 k1_0 k1_1 k1_2 k1_3
  rintro e w3 ⟨v5, rfl, z5, bb⟩
  have k1 := k1.below bb
  have p2 := p2.below bb
  have kn1 := kn1.below bb
  have kd1 := kd1.below bb
  have p4 := p4.below bb
  have kn2 := kn2.below bb
  have kd2 := kd2.below bb
  have B0 := B0.trans (bb.mono B0.size)
  clear bb
  obtain ⟨b5, A5, n5, c5, rfl, z5⟩ := z5.cells
  have kn1_0 := kn1.c0
  have kn1_1 := kn1.c1
  have kd1_0 := kd1.c0
  have kd1_1 := kd1.c1
  have kn2_0 := kn2.c0
  have kn2_1 := kn2.c1
  have kd2_0 := kd2.c0
  have kd2_1 := kd2.c1
  have k1_0 := k1.1
  have k1_1 := k1.2.1
  have k1_2 := k1.2.2.1
  have k1_3 := k1.2.2.2
  go_wp2
  refine bodyPost_ret (v := .agg #[.bool b5, .slice A5 n5 c5]) (by simp [results, Tryz.results45, go_sem, k1_0, k1_1]) rfl ⟨_, rfl, z5.ret k1 _ _, below_ret B0 (by omega) _ _⟩
set_option maxRecDepth 20000 in
set_option maxHeartbeats 2000000 in
theorem reduce_q {w : World} {v u : Value} {z y : Int} {k j : Nat} (h : Iv w v z k) (hu : Iv w u y j) (hk : k ≤ 900) (hj : j ≤ 900) (hy : y ≠ 0) (x : Rat) (hx : (z : Rat) / (y : Rat) = x) : Calls Tryz.prog 40 #[v, u] w (QEnd x k j w) := by
  obtain ⟨b, A, n, c, m, rfl, hm, rfl⟩ := h
  obtain ⟨b', A', n', c', m', rfl, hm', rfl⟩ := hu
  have h0 : m' ≠ 0 := by rintro rfl; exact hy (sgn_zero _)
  have hg : 0 < Nat.gcd m m' := Nat.gcd_pos_of_pos_right _ (by omega)
  rw [← RatN.red_eq b b' m m' h0] at hx
  have hn : x.num = sgn (!(b == b')) (m / Nat.gcd m m') := by rw [← hx]; exact RatN.low_num _ _ _ h0
  have hd : x.den = m' / Nat.gcd m m' := by rw [← hx]; exact RatN.low_den' _ _ _ h0
  have HG := Lib.hid hg
  have HN := Lib.hid hn
  have HD := Lib.hid hd
  clear hy hx h0 hg hn hd
  have B0 := below_a3 w (.cells #[.bool b, .slice A n c] 25) (.cells #[.bool b', .slice A' n' c'] 25) (.cells #[.bool false, .slice none 0 0, .slice none 0 0] 27)
  have hm := hm.below B0
  have hm' := hm'.below B0
  have ka := (((Bx.new w (w.heap.size) (by simp) (.bool b) (.slice A n c)).below (below_alloc (w.alloc (.cells #[.bool b, .slice A n c] 25)) (.cells #[.bool b', .slice A' n' c'] 25))).below (below_alloc ((w.alloc (.cells #[.bool b, .slice A n c] 25)).alloc (.cells #[.bool b', .slice A' n' c'] 25)) (.cells #[.bool false, .slice none 0 0, .slice none 0 0] 27)))
  have kb := ((Bx.new (w.alloc (.cells #[.bool b, .slice A n c] 25)) (w.heap.size + 1) (by simp) (.bool b') (.slice A' n' c')).below (below_alloc ((w.alloc (.cells #[.bool b, .slice A n c] 25)).alloc (.cells #[.bool b', .slice A' n' c'] 25)) (.cells #[.bool false, .slice none 0 0, .slice none 0 0] 27)))
  have kr := (Rq.new ((w.alloc (.cells #[.bool b, .slice A n c] 25)).alloc (.cells #[.bool b', .slice A' n' c'] 25)) (w.heap.size + 1 + 1) (by simp))
  go_enter Tryz.func40, Tryz.ntmps40
  have ka_0 := ka.c0
  have ka_1 := ka.c1
  have kb_0 := kb.c0
  have kb_1 := kb.c1
  have kr_0 := kr.1
  have kr_1 := kr.2.1
  have kr_2 := kr.2.2.1
  have kr_3 := kr.2.2.2.1
  have kr_4 := kr.2.2.2.2.1
  have kr_5 := kr.2.2.2.2.2
  go_wp2_with fail
  refine (gcd_n hm hm' (by omega) (by omega)).mono ?_
  clear ka_0 ka_1 kb_0 kb_1 kr_0 kr_1 kr_2 kr_3 kr_4 kr_5
  rintro e w1 ⟨v1, rfl, z1, bb⟩
  have hm := hm.below bb
  have hm' := hm'.below bb
  have ka := ka.below bb
  have kb := kb.below bb
  have kr := kr.below bb
  have B0 := B0.trans (bb.mono B0.size)
  clear bb
  obtain ⟨A1, n1, c1, rfl, _, _⟩ := z1.nm.form
  have ka_0 := ka.c0
  have ka_1 := ka.c1
  have kb_0 := kb.c0
  have kb_1 := kb.c1
  have kr_0 := kr.1
  have kr_1 := kr.2.1
  have kr_2 := kr.2.2.1
  have kr_3 := kr.2.2.2.1
  have kr_4 := kr.2.2.2.2.1
  have kr_5 := kr.2.2.2.2.2
  go_wp2_with fail
  refine (div_n hm z1.nm (by omega) HG.out).mono ?_
  clear ka_0 ka_1 kb_0 kb_1 kr_0 kr_1 kr_2 kr_3 kr_4 kr_5
  rintro e w2 ⟨v2, v3, rfl, z2, z3, bb⟩
  have hm := hm.below bb
  have hm' := hm'.below bb
  have ka := ka.below bb
  have kb := kb.below bb
  have kr := kr.below bb
  have z1 := z1.below bb
  have B0 := B0.trans (bb.mono B0.size)
  clear bb
  obtain ⟨A2, n2, c2, rfl, _, _⟩ := z2.nm.form
  clear z3
  have ka_0 := ka.c0
  have ka_1 := ka.c1
  have kb_0 := kb.c0
  have kb_1 := kb.c1
  have kr_0 := kr.1
  have kr_1 := kr.2.1
  have kr_2 := kr.2.2.1
  have kr_3 := kr.2.2.2.1
  have kr_4 := kr.2.2.2.2.1
  have kr_5 := kr.2.2.2.2.2
  go_wp2_with fail
  refine (div_n hm' z1.nm (by omega) HG.out).mono ?_
  clear ka_0 ka_1 kb_0 kb_1 kr_0 kr_1 kr_2 kr_3 kr_4 kr_5
  rintro e w3 ⟨v4, v5, rfl, z4, z5, bb⟩
  have hm' := hm'.below bb
  have ka := ka.below bb
  have kb := kb.below bb
  have kr := kr.below bb
  have z1 := z1.below bb
  have z2 := z2.below bb
  have B0 := B0.trans (bb.mono B0.size)
  clear bb
  obtain ⟨A4, n4, c4, rfl, _, _⟩ := z4.nm.form
  clear z5
  have ka_0 := ka.c0
  have ka_1 := ka.c1
  have kb_0 := kb.c0
  have kb_1 := kb.c1
  have kr_0 := kr.1
  have kr_1 := kr.2.1
  have kr_2 := kr.2.2.1
  have kr_3 := kr.2.2.2.1
  have kr_4 := kr.2.2.2.2.1
  have kr_5 := kr.2.2.2.2.2
  go_wp2_with fail
  refine (inorm_i (z2.nm.iv (!(b == b'))) (by omega)).mono ?_
  clear ka_0 ka_1 kb_0 kb_1 kr_0 kr_1 kr_2 kr_3 kr_4 kr_5
  rintro e w4 ⟨v6, rfl, z6, bb⟩
  have ka := ka.below bb
  have kb := kb.below bb
  have kr := kr.below bb
  have z2 := z2.below bb
  have z4 := z4.below bb
  have B0 := B0.trans (bb.mono B0.size)
  clear bb
  obtain ⟨b6, A6, n6, c6, rfl, z6⟩ := z6.cells
  have ka_0 := ka.c0
  have ka_1 := ka.c1
  have kb_0 := kb.c0
  have kb_1 := kb.c1
  have kr_0 := kr.1
  have kr_1 := kr.2.1
  have kr_2 := kr.2.2.1
  have kr_3 := kr.2.2.2.1
  have kr_4 := kr.2.2.2.2.1
  have kr_5 := kr.2.2.2.2.2
  go_wp2
  refine bodyPost_ret (v := .agg #[.bool b6, .slice A6 n6 c6, .slice A4 n4 c4]) (by simp [results, Tryz.results40, go_sem, kr_0, kr_1, kr_2]) rfl ⟨_, _, _, _, _, _, _, rfl, Qz.mk (z6.ret3 kr _ _ _) (z4.ret3 kr _ _ _) HN.out.symm HD.out.symm, below_ret3 B0 (by omega) _ _ _⟩
set_option maxRecDepth 20000 in
set_option maxHeartbeats 2000000 in
theorem qneg_p {w : World} {va : Value} {z : Int} {d k j : Nat} (ha : Qp w va z d k j) (hk : k ≤ 900) (hj : j ≤ 900) (hd : ((d : Int)) ≠ 0) (x : Rat) (hx : ((-z : Int) : Rat) / (((d : Int) : Int) : Rat) = x) : Calls Tryz.prog 16 #[va] w (QEnd x k (max j 2) w) := by
  obtain ⟨ba, Aa, na, ca, Ba, ma, da, rfl, ha⟩ := ha.cells
  have HD := Lib.hid hd
  clear hd
  have HX := Lib.hid hx
  clear hx
  have B0 := below_a2 w (.cells #[.bool ba, .slice Aa na ca, .slice Ba ma da] 27) (.cells #[.bool false, .slice none 0 0, .slice none 0 0] 27)
  have ha := ha.below B0
  have ka := ((Bq.new w (w.heap.size) (by simp) (.bool ba) (.slice Aa na ca) (.slice Ba ma da)).below (below_alloc (w.alloc (.cells #[.bool ba, .slice Aa na ca, .slice Ba ma da] 27)) (.cells #[.bool false, .slice none 0 0, .slice none 0 0] 27)))
  have kr := (Rq.new (w.alloc (.cells #[.bool ba, .slice Aa na ca, .slice Ba ma da] 27)) (w.heap.size + 1) (by simp))
  go_enter Tryz.func16, Tryz.ntmps16
  have ka_0 := ka.c0
  have ka_1 := ka.c1
  have ka_2 := ka.c2
  have kr_0 := kr.1
  have kr_1 := kr.2.1
  have kr_2 := kr.2.2.1
  have kr_3 := kr.2.2.2.1
  have kr_4 := kr.2.2.2.2.1
  have kr_5 := kr.2.2.2.2.2
  go_wp2_with fail
  refine (parts_q ha).mono ?_
  clear ka_0 ka_1 ka_2 kr_0 kr_1 kr_2 kr_3 kr_4 kr_5
  rintro e w1 ⟨b1, A1, n1, c1, b2, A2, n2, c2, rfl, p1, p2, bb⟩
  have ha := ha.below bb
  have ka := ka.below bb
  have kr := kr.below bb
  have B0 := B0.trans (bb.mono B0.size)
  clear bb
  have lkr_w1 := kr.apart.1
  have kr := kr.below (below_alloc w1 (.cells #[.bool b1, .slice A1 n1 c1] 25))
  have p1 := p1.below (below_alloc w1 (.cells #[.bool b1, .slice A1 n1 c1] 25))
  have p2 := p2.below (below_alloc w1 (.cells #[.bool b1, .slice A1 n1 c1] 25))
  have kn := Bx.new w1 (w1.heap.size) (by simp) (.bool b1) (.slice A1 n1 c1)
  have B0 := B0.trans ((below_alloc w1 (.cells #[.bool b1, .slice A1 n1 c1] 25)).mono B0.size)
  have kr := kr.below (below_alloc (w1.alloc (.cells #[.bool b1, .slice A1 n1 c1] 25)) (.cells #[.bool b2, .slice A2 n2 c2] 25))
  have p1 := p1.below (below_alloc (w1.alloc (.cells #[.bool b1, .slice A1 n1 c1] 25)) (.cells #[.bool b2, .slice A2 n2 c2] 25))
  have p2 := p2.below (below_alloc (w1.alloc (.cells #[.bool b1, .slice A1 n1 c1] 25)) (.cells #[.bool b2, .slice A2 n2 c2] 25))
  have kn := kn.below (below_alloc (w1.alloc (.cells #[.bool b1, .slice A1 n1 c1] 25)) (.cells #[.bool b2, .slice A2 n2 c2] 25))
  have kd := Bx.new (w1.alloc (.cells #[.bool b1, .slice A1 n1 c1] 25)) (w1.heap.size + 1) (by simp) (.bool b2) (.slice A2 n2 c2)
  have B0 := B0.trans ((below_alloc (w1.alloc (.cells #[.bool b1, .slice A1 n1 c1] 25)) (.cells #[.bool b2, .slice A2 n2 c2] 25)).mono B0.size)
  go_wp2_with fail
  have kr := kr.drew
  have p1 := p1.drew
  have p2 := p2.drew
  have kn := kn.drew
  have kd := kd.drew
  have B0 := b_drew B0
  go_region_held3 (fun w' => w'.cell? ⟨w1.heap.size, 0, none⟩ = some (.bool b1) ∧ w'.cell? ⟨w1.heap.size, 1, none⟩ = some (.slice A1 n1 c1) ∧ w'.cell? ⟨w1.heap.size + 1, 0, none⟩ = some (.bool b2) ∧ w'.cell? ⟨w1.heap.size + 1, 1, none⟩ = some (.slice A2 n2 c2)) (first | with_reducible exact ⟨kn.c0, kn.c1, kd.c0, kd.c1⟩ | with_reducible exact ⟨(kn.ret3 (r := w.heap.size + 1) (by omega) _ _ _).c0, (kn.ret3 (r := w.heap.size + 1) (by omega) _ _ _).c1, (kd.ret3 (r := w.heap.size + 1) (by omega) _ _ _).c0, (kd.ret3 (r := w.heap.size + 1) (by omega) _ _ _).c1⟩)
    (first
      | (go_at_call 41; (with_reducible refine (ineg_i p1 ?_).mono ?_); omega; rintro e w2 ⟨v5, rfl, z5, bb⟩; have kr := kr.below bb; have p1 := p1.below bb; have p2 := p2.below bb; have kn := kn.below bb; have kd := kd.below bb; have B0 := B0.trans (bb.mono B0.size); clear bb; obtain ⟨b5, A5, n5, c5, rfl, z5⟩ := z5.cells)
      | (go_at_call 40; (with_reducible refine (reduce_q z5.iv p2 ?_ ?_ HD.out _ HX.out).mono ?_); omega; omega; rintro e w3 ⟨br, Ar, nr, cr, Br, mr, dr, rfl, zr, bb⟩; have kr := kr.below bb; have p1 := p1.below bb; have p2 := p2.below bb; have kn := kn.below bb; have kd := kd.below bb; have z5 := z5.below bb; have B0 := B0.trans (bb.mono B0.size); clear bb; have kn_0 := kn.c0; have kn_1 := kn.c1; have kd_0 := kd.c0; have kd_1 := kd.c1; have kr_0 := kr.1; have kr_1 := kr.2.1; have kr_2 := kr.2.2.1; have kr_3 := kr.2.2.2.1; have kr_4 := kr.2.2.2.2.1; have kr_5 := kr.2.2.2.2.2))
  go_wp2
  refine bodyPost_ret (v := .agg #[.bool br, .slice Ar nr cr, .slice Br mr dr]) (by simp [results, Tryz.results16, go_sem, kr_0, kr_1, kr_2]) rfl ⟨_, _, _, _, _, _, _, rfl, zr.ret3 kr _ _ _, below_ret3 B0 (by omega) _ _ _⟩
set_option maxRecDepth 20000 in
set_option maxHeartbeats 2000000 in
theorem qadd_p {w : World} {va vb : Value} {z y : Int} {d e k j k' j' : Nat} (ha : Qp w va z d k j) (hb : Qp w vb y e k' j') (h1 : k ≤ 150) (h2 : k' ≤ 150) (h3 : j ≤ 150) (h4 : j' ≤ 150) (hd : (d : Int) * (e : Int) ≠ 0) (x : Rat) (hx : ((z * (e : Int) + y * (d : Int) : Int) : Rat) / (((d : Int) * (e : Int) : Int) : Rat) = x) : Calls Tryz.prog 20 #[va, vb] w (QEnd x (max (k + max j' 2) (k' + max j 2) + 1) (max j 2 + max j' 2) w) := by
  obtain ⟨ba, Aa, na, ca, Ba, ma, da, rfl, ha⟩ := ha.cells
  obtain ⟨bb', Ab, nb, cb, Bb, mb, db, rfl, hb⟩ := hb.cells
  have HD := Lib.hid hd
  clear hd
  have HX := Lib.hid hx
  clear hx
  have B0 := below_a3 w (.cells #[.bool ba, .slice Aa na ca, .slice Ba ma da] 27) (.cells #[.bool bb', .slice Ab nb cb, .slice Bb mb db] 27) (.cells #[.bool false, .slice none 0 0, .slice none 0 0] 27)
  have ha := ha.below B0
  have hb := hb.below B0
  have ka := (((Bq.new w (w.heap.size) (by simp) (.bool ba) (.slice Aa na ca) (.slice Ba ma da)).below (below_alloc (w.alloc (.cells #[.bool ba, .slice Aa na ca, .slice Ba ma da] 27)) (.cells #[.bool bb', .slice Ab nb cb, .slice Bb mb db] 27))).below (below_alloc ((w.alloc (.cells #[.bool ba, .slice Aa na ca, .slice Ba ma da] 27)).alloc (.cells #[.bool bb', .slice Ab nb cb, .slice Bb mb db] 27)) (.cells #[.bool false, .slice none 0 0, .slice none 0 0] 27)))
  have kb := ((Bq.new (w.alloc (.cells #[.bool ba, .slice Aa na ca, .slice Ba ma da] 27)) (w.heap.size + 1) (by simp) (.bool bb') (.slice Ab nb cb) (.slice Bb mb db)).below (below_alloc ((w.alloc (.cells #[.bool ba, .slice Aa na ca, .slice Ba ma da] 27)).alloc (.cells #[.bool bb', .slice Ab nb cb, .slice Bb mb db] 27)) (.cells #[.bool false, .slice none 0 0, .slice none 0 0] 27)))
  have kr := (Rq.new ((w.alloc (.cells #[.bool ba, .slice Aa na ca, .slice Ba ma da] 27)).alloc (.cells #[.bool bb', .slice Ab nb cb, .slice Bb mb db] 27)) (w.heap.size + 1 + 1) (by simp))
  go_enter Tryz.func20, Tryz.ntmps20
  go_wp2_with fail
  have ha := ha.drew
  have hb := hb.drew
  have ka := ka.drew
  have kb := kb.drew
  have kr := kr.drew
  have B0 := b_drew B0
  go_region_held3 (fun w' => w'.cell? ⟨w.heap.size, 0, none⟩ = some (.bool ba) ∧ w'.cell? ⟨w.heap.size, 1, none⟩ = some (.slice Aa na ca) ∧ w'.cell? ⟨w.heap.size, 2, none⟩ = some (.slice Ba ma da) ∧ w'.cell? ⟨w.heap.size + 1, 0, none⟩ = some (.bool bb') ∧ w'.cell? ⟨w.heap.size + 1, 1, none⟩ = some (.slice Ab nb cb) ∧ w'.cell? ⟨w.heap.size + 1, 2, none⟩ = some (.slice Bb mb db)) (first | with_reducible exact ⟨ka.c0, ka.c1, ka.c2, kb.c0, kb.c1, kb.c2⟩ | with_reducible exact ⟨(ka.ret3 (r := w.heap.size + 1 + 1) (by omega) _ _ _).c0, (ka.ret3 (r := w.heap.size + 1 + 1) (by omega) _ _ _).c1, (ka.ret3 (r := w.heap.size + 1 + 1) (by omega) _ _ _).c2, (kb.ret3 (r := w.heap.size + 1 + 1) (by omega) _ _ _).c0, (kb.ret3 (r := w.heap.size + 1 + 1) (by omega) _ _ _).c1, (kb.ret3 (r := w.heap.size + 1 + 1) (by omega) _ _ _).c2⟩)
    (first
      | (go_at_call 38; (with_reducible refine (cross_q ha hb ?_ ?_ ?_ ?_).mono ?_); omega; omega; omega; omega; rintro e w1 ⟨b1, A1, n1, c1, b2, A2, n2, c2, rfl, p1, p2, bb⟩; have ha := ha.below bb; have hb := hb.below bb; have ka := ka.below bb; have kb := kb.below bb; have kr := kr.below bb; have B0 := B0.trans (bb.mono B0.size); clear bb)
      | (go_at_call 48; (with_reducible refine (iadd_i p1 p2 ?_ ?_).mono ?_); omega; omega; rintro e w2 ⟨v5, rfl, z5, bb⟩; have ha := ha.below bb; have hb := hb.below bb; have ka := ka.below bb; have kb := kb.below bb; have kr := kr.below bb; have p1 := p1.below bb; have p2 := p2.below bb; have B0 := B0.trans (bb.mono B0.size); clear bb; obtain ⟨b5, A5, n5, c5, rfl, z5⟩ := z5.cells)
      | (go_at_call 45; (with_reducible refine (denominator_q ha hb ?_ ?_).mono ?_); omega; omega; rintro e w3 ⟨v6, rfl, z6, bb⟩; have ha := ha.below bb; have hb := hb.below bb; have ka := ka.below bb; have kb := kb.below bb; have kr := kr.below bb; have z5 := z5.below bb; have B0 := B0.trans (bb.mono B0.size); clear bb; obtain ⟨b6, A6, n6, c6, rfl, z6⟩ := z6.cells)
      | (go_at_call 40; (with_reducible refine (reduce_q z5.iv z6.iv ?_ ?_ HD.out _ HX.out).mono ?_); omega; omega; rintro e w4 ⟨br, Ar, nr, cr, Br, mr, dr, rfl, zr, bb⟩; have ha := ha.below bb; have hb := hb.below bb; have ka := ka.below bb; have kb := kb.below bb; have kr := kr.below bb; have z5 := z5.below bb; have z6 := z6.below bb; have B0 := B0.trans (bb.mono B0.size); clear bb; have ka_0 := ka.c0; have ka_1 := ka.c1; have ka_2 := ka.c2; have kb_0 := kb.c0; have kb_1 := kb.c1; have kb_2 := kb.c2; have kr_0 := kr.1; have kr_1 := kr.2.1; have kr_2 := kr.2.2.1; have kr_3 := kr.2.2.2.1; have kr_4 := kr.2.2.2.2.1; have kr_5 := kr.2.2.2.2.2))
  go_wp2
  refine bodyPost_ret (v := .agg #[.bool br, .slice Ar nr cr, .slice Br mr dr]) (by simp [results, Tryz.results20, go_sem, kr_0, kr_1, kr_2]) rfl ⟨_, _, _, _, _, _, _, rfl, zr.ret3 kr _ _ _, below_ret3 B0 (by omega) _ _ _⟩
set_option maxRecDepth 20000 in
set_option maxHeartbeats 2000000 in
theorem qsub_p {w : World} {va vb : Value} {z y : Int} {d e k j k' j' : Nat} (ha : Qp w va z d k j) (hb : Qp w vb y e k' j') (h1 : k ≤ 150) (h2 : k' ≤ 150) (h3 : j ≤ 150) (h4 : j' ≤ 150) (hd : (d : Int) * (e : Int) ≠ 0) (x : Rat) (hx : ((z * (e : Int) - y * (d : Int) : Int) : Rat) / (((d : Int) * (e : Int) : Int) : Rat) = x) : Calls Tryz.prog 21 #[va, vb] w (QEnd x (max (k + max j' 2) (k' + max j 2) + 1) (max j 2 + max j' 2) w) := by
  obtain ⟨ba, Aa, na, ca, Ba, ma, da, rfl, ha⟩ := ha.cells
  obtain ⟨bb', Ab, nb, cb, Bb, mb, db, rfl, hb⟩ := hb.cells
  have HD := Lib.hid hd
  clear hd
  have HX := Lib.hid hx
  clear hx
  have B0 := below_a3 w (.cells #[.bool ba, .slice Aa na ca, .slice Ba ma da] 27) (.cells #[.bool bb', .slice Ab nb cb, .slice Bb mb db] 27) (.cells #[.bool false, .slice none 0 0, .slice none 0 0] 27)
  have ha := ha.below B0
  have hb := hb.below B0
  have ka := (((Bq.new w (w.heap.size) (by simp) (.bool ba) (.slice Aa na ca) (.slice Ba ma da)).below (below_alloc (w.alloc (.cells #[.bool ba, .slice Aa na ca, .slice Ba ma da] 27)) (.cells #[.bool bb', .slice Ab nb cb, .slice Bb mb db] 27))).below (below_alloc ((w.alloc (.cells #[.bool ba, .slice Aa na ca, .slice Ba ma da] 27)).alloc (.cells #[.bool bb', .slice Ab nb cb, .slice Bb mb db] 27)) (.cells #[.bool false, .slice none 0 0, .slice none 0 0] 27)))
  have kb := ((Bq.new (w.alloc (.cells #[.bool ba, .slice Aa na ca, .slice Ba ma da] 27)) (w.heap.size + 1) (by simp) (.bool bb') (.slice Ab nb cb) (.slice Bb mb db)).below (below_alloc ((w.alloc (.cells #[.bool ba, .slice Aa na ca, .slice Ba ma da] 27)).alloc (.cells #[.bool bb', .slice Ab nb cb, .slice Bb mb db] 27)) (.cells #[.bool false, .slice none 0 0, .slice none 0 0] 27)))
  have kr := (Rq.new ((w.alloc (.cells #[.bool ba, .slice Aa na ca, .slice Ba ma da] 27)).alloc (.cells #[.bool bb', .slice Ab nb cb, .slice Bb mb db] 27)) (w.heap.size + 1 + 1) (by simp))
  go_enter Tryz.func21, Tryz.ntmps21
  go_wp2_with fail
  have ha := ha.drew
  have hb := hb.drew
  have ka := ka.drew
  have kb := kb.drew
  have kr := kr.drew
  have B0 := b_drew B0
  go_region_held3 (fun w' => w'.cell? ⟨w.heap.size, 0, none⟩ = some (.bool ba) ∧ w'.cell? ⟨w.heap.size, 1, none⟩ = some (.slice Aa na ca) ∧ w'.cell? ⟨w.heap.size, 2, none⟩ = some (.slice Ba ma da) ∧ w'.cell? ⟨w.heap.size + 1, 0, none⟩ = some (.bool bb') ∧ w'.cell? ⟨w.heap.size + 1, 1, none⟩ = some (.slice Ab nb cb) ∧ w'.cell? ⟨w.heap.size + 1, 2, none⟩ = some (.slice Bb mb db)) (first | with_reducible exact ⟨ka.c0, ka.c1, ka.c2, kb.c0, kb.c1, kb.c2⟩ | with_reducible exact ⟨(ka.ret3 (r := w.heap.size + 1 + 1) (by omega) _ _ _).c0, (ka.ret3 (r := w.heap.size + 1 + 1) (by omega) _ _ _).c1, (ka.ret3 (r := w.heap.size + 1 + 1) (by omega) _ _ _).c2, (kb.ret3 (r := w.heap.size + 1 + 1) (by omega) _ _ _).c0, (kb.ret3 (r := w.heap.size + 1 + 1) (by omega) _ _ _).c1, (kb.ret3 (r := w.heap.size + 1 + 1) (by omega) _ _ _).c2⟩)
    (first
      | (go_at_call 38; (with_reducible refine (cross_q ha hb ?_ ?_ ?_ ?_).mono ?_); omega; omega; omega; omega; rintro e w1 ⟨b1, A1, n1, c1, b2, A2, n2, c2, rfl, p1, p2, bb⟩; have ha := ha.below bb; have hb := hb.below bb; have ka := ka.below bb; have kb := kb.below bb; have kr := kr.below bb; have B0 := B0.trans (bb.mono B0.size); clear bb)
      | (go_at_call 49; (with_reducible refine (isub_i p1 p2 ?_ ?_).mono ?_); omega; omega; rintro e w2 ⟨v5, rfl, z5, bb⟩; have ha := ha.below bb; have hb := hb.below bb; have ka := ka.below bb; have kb := kb.below bb; have kr := kr.below bb; have p1 := p1.below bb; have p2 := p2.below bb; have B0 := B0.trans (bb.mono B0.size); clear bb; obtain ⟨b5, A5, n5, c5, rfl, z5⟩ := z5.cells)
      | (go_at_call 45; (with_reducible refine (denominator_q ha hb ?_ ?_).mono ?_); omega; omega; rintro e w3 ⟨v6, rfl, z6, bb⟩; have ha := ha.below bb; have hb := hb.below bb; have ka := ka.below bb; have kb := kb.below bb; have kr := kr.below bb; have z5 := z5.below bb; have B0 := B0.trans (bb.mono B0.size); clear bb; obtain ⟨b6, A6, n6, c6, rfl, z6⟩ := z6.cells)
      | (go_at_call 40; (with_reducible refine (reduce_q z5.iv z6.iv ?_ ?_ HD.out _ HX.out).mono ?_); omega; omega; rintro e w4 ⟨br, Ar, nr, cr, Br, mr, dr, rfl, zr, bb⟩; have ha := ha.below bb; have hb := hb.below bb; have ka := ka.below bb; have kb := kb.below bb; have kr := kr.below bb; have z5 := z5.below bb; have z6 := z6.below bb; have B0 := B0.trans (bb.mono B0.size); clear bb; have ka_0 := ka.c0; have ka_1 := ka.c1; have ka_2 := ka.c2; have kb_0 := kb.c0; have kb_1 := kb.c1; have kb_2 := kb.c2; have kr_0 := kr.1; have kr_1 := kr.2.1; have kr_2 := kr.2.2.1; have kr_3 := kr.2.2.2.1; have kr_4 := kr.2.2.2.2.1; have kr_5 := kr.2.2.2.2.2))
  go_wp2
  refine bodyPost_ret (v := .agg #[.bool br, .slice Ar nr cr, .slice Br mr dr]) (by simp [results, Tryz.results21, go_sem, kr_0, kr_1, kr_2]) rfl ⟨_, _, _, _, _, _, _, rfl, zr.ret3 kr _ _ _, below_ret3 B0 (by omega) _ _ _⟩
set_option maxRecDepth 20000 in
set_option maxHeartbeats 2000000 in
theorem qmul_p {w : World} {va vb : Value} {z y : Int} {d e k j k' j' : Nat} (ha : Qp w va z d k j) (hb : Qp w vb y e k' j') (h1 : k ≤ 150) (h2 : k' ≤ 150) (h3 : j ≤ 150) (h4 : j' ≤ 150) (hd : (d : Int) * (e : Int) ≠ 0) (x : Rat) (hx : ((z * y : Int) : Rat) / (((d : Int) * (e : Int) : Int) : Rat) = x) : Calls Tryz.prog 18 #[va, vb] w (QEnd x (k + k') (max j 2 + max j' 2) w) := by
  obtain ⟨ba, Aa, na, ca, Ba, ma, da, rfl, ha⟩ := ha.cells
  obtain ⟨bb', Ab, nb, cb, Bb, mb, db, rfl, hb⟩ := hb.cells
  have HD := Lib.hid hd
  clear hd
  have HX := Lib.hid hx
  clear hx
  have B0 := below_a3 w (.cells #[.bool ba, .slice Aa na ca, .slice Ba ma da] 27) (.cells #[.bool bb', .slice Ab nb cb, .slice Bb mb db] 27) (.cells #[.bool false, .slice none 0 0, .slice none 0 0] 27)
  have ha := ha.below B0
  have hb := hb.below B0
  have ka := (((Bq.new w (w.heap.size) (by simp) (.bool ba) (.slice Aa na ca) (.slice Ba ma da)).below (below_alloc (w.alloc (.cells #[.bool ba, .slice Aa na ca, .slice Ba ma da] 27)) (.cells #[.bool bb', .slice Ab nb cb, .slice Bb mb db] 27))).below (below_alloc ((w.alloc (.cells #[.bool ba, .slice Aa na ca, .slice Ba ma da] 27)).alloc (.cells #[.bool bb', .slice Ab nb cb, .slice Bb mb db] 27)) (.cells #[.bool false, .slice none 0 0, .slice none 0 0] 27)))
  have kb := ((Bq.new (w.alloc (.cells #[.bool ba, .slice Aa na ca, .slice Ba ma da] 27)) (w.heap.size + 1) (by simp) (.bool bb') (.slice Ab nb cb) (.slice Bb mb db)).below (below_alloc ((w.alloc (.cells #[.bool ba, .slice Aa na ca, .slice Ba ma da] 27)).alloc (.cells #[.bool bb', .slice Ab nb cb, .slice Bb mb db] 27)) (.cells #[.bool false, .slice none 0 0, .slice none 0 0] 27)))
  have kr := (Rq.new ((w.alloc (.cells #[.bool ba, .slice Aa na ca, .slice Ba ma da] 27)).alloc (.cells #[.bool bb', .slice Ab nb cb, .slice Bb mb db] 27)) (w.heap.size + 1 + 1) (by simp))
  go_enter Tryz.func18, Tryz.ntmps18
  have ka_0 := ka.c0
  have ka_1 := ka.c1
  have ka_2 := ka.c2
  have kb_0 := kb.c0
  have kb_1 := kb.c1
  have kb_2 := kb.c2
  have kr_0 := kr.1
  have kr_1 := kr.2.1
  have kr_2 := kr.2.2.1
  have kr_3 := kr.2.2.2.1
  have kr_4 := kr.2.2.2.2.1
  have kr_5 := kr.2.2.2.2.2
  go_wp2_with fail
  refine (parts_q ha).mono ?_
  clear ka_0 ka_1 ka_2 kb_0 kb_1 kb_2 kr_0 kr_1 kr_2 kr_3 kr_4 kr_5
  rintro e w1 ⟨b1, A1, n1, c1, b2, A2, n2, c2, rfl, p1, p2, bb⟩
  have ha := ha.below bb
  have hb := hb.below bb
  have ka := ka.below bb
  have kb := kb.below bb
  have kr := kr.below bb
  have B0 := B0.trans (bb.mono B0.size)
  clear bb
  have lkr_w1 := kr.apart.1
  have ha := ha.below (below_alloc w1 (.cells #[.bool b1, .slice A1 n1 c1] 25))
  have hb := hb.below (below_alloc w1 (.cells #[.bool b1, .slice A1 n1 c1] 25))
  have ka := ka.below (below_alloc w1 (.cells #[.bool b1, .slice A1 n1 c1] 25))
  have kb := kb.below (below_alloc w1 (.cells #[.bool b1, .slice A1 n1 c1] 25))
  have kr := kr.below (below_alloc w1 (.cells #[.bool b1, .slice A1 n1 c1] 25))
  have p1 := p1.below (below_alloc w1 (.cells #[.bool b1, .slice A1 n1 c1] 25))
  have kn1 := Bx.new w1 (w1.heap.size) (by simp) (.bool b1) (.slice A1 n1 c1)
  have B0 := B0.trans ((below_alloc w1 (.cells #[.bool b1, .slice A1 n1 c1] 25)).mono B0.size)
  have ha := ha.below (below_alloc (w1.alloc (.cells #[.bool b1, .slice A1 n1 c1] 25)) (.cells #[.bool b2, .slice A2 n2 c2] 25))
  have hb := hb.below (below_alloc (w1.alloc (.cells #[.bool b1, .slice A1 n1 c1] 25)) (.cells #[.bool b2, .slice A2 n2 c2] 25))
  have ka := ka.below (below_alloc (w1.alloc (.cells #[.bool b1, .slice A1 n1 c1] 25)) (.cells #[.bool b2, .slice A2 n2 c2] 25))
  have kb := kb.below (below_alloc (w1.alloc (.cells #[.bool b1, .slice A1 n1 c1] 25)) (.cells #[.bool b2, .slice A2 n2 c2] 25))
  have kr := kr.below (below_alloc (w1.alloc (.cells #[.bool b1, .slice A1 n1 c1] 25)) (.cells #[.bool b2, .slice A2 n2 c2] 25))
  have p1 := p1.below (below_alloc (w1.alloc (.cells #[.bool b1, .slice A1 n1 c1] 25)) (.cells #[.bool b2, .slice A2 n2 c2] 25))
  have kn1 := kn1.below (below_alloc (w1.alloc (.cells #[.bool b1, .slice A1 n1 c1] 25)) (.cells #[.bool b2, .slice A2 n2 c2] 25))
  have kd1 := Bx.new (w1.alloc (.cells #[.bool b1, .slice A1 n1 c1] 25)) (w1.heap.size + 1) (by simp) (.bool b2) (.slice A2 n2 c2)
  have B0 := B0.trans ((below_alloc (w1.alloc (.cells #[.bool b1, .slice A1 n1 c1] 25)) (.cells #[.bool b2, .slice A2 n2 c2] 25)).mono B0.size)
  have ka_0 := ka.c0
  have ka_1 := ka.c1
  have ka_2 := ka.c2
  have kb_0 := kb.c0
  have kb_1 := kb.c1
  have kb_2 := kb.c2
  have kn1_0 := kn1.c0
  have kn1_1 := kn1.c1
  have kd1_0 := kd1.c0
  have kd1_1 := kd1.c1
  have kr_0 := kr.1
  have kr_1 := kr.2.1
  have kr_2 := kr.2.2.1
  have kr_3 := kr.2.2.2.1
  have kr_4 := kr.2.2.2.2.1
  have kr_5 := kr.2.2.2.2.2
  go_wp2_with fail
  refine (parts_q hb).mono ?_
  clear ka_0 ka_1 ka_2 kb_0 kb_1 kb_2 kn1_0 kn1_1 kd1_0 kd1_1 kr_0 kr_1 kr_2 kr_3 kr_4 kr_5
  rintro e w2 ⟨b3, A3, n3, c3, b4, A4, n4, c4, rfl, p3, p4, bb⟩
  have ha := ha.below bb
  have hb := hb.below bb
  have ka := ka.below bb
  have kb := kb.below bb
  have kr := kr.below bb
  have p1 := p1.below bb
  have kn1 := kn1.below bb
  have kd1 := kd1.below bb
  have B0 := B0.trans (bb.mono B0.size)
  clear bb
  have lkr_w2 := kr.apart.1
  have ha := ha.below (below_alloc w2 (.cells #[.bool b3, .slice A3 n3 c3] 25))
  have hb := hb.below (below_alloc w2 (.cells #[.bool b3, .slice A3 n3 c3] 25))
  have ka := ka.below (below_alloc w2 (.cells #[.bool b3, .slice A3 n3 c3] 25))
  have kb := kb.below (below_alloc w2 (.cells #[.bool b3, .slice A3 n3 c3] 25))
  have kr := kr.below (below_alloc w2 (.cells #[.bool b3, .slice A3 n3 c3] 25))
  have p1 := p1.below (below_alloc w2 (.cells #[.bool b3, .slice A3 n3 c3] 25))
  have kn1 := kn1.below (below_alloc w2 (.cells #[.bool b3, .slice A3 n3 c3] 25))
  have kd1 := kd1.below (below_alloc w2 (.cells #[.bool b3, .slice A3 n3 c3] 25))
  have p3 := p3.below (below_alloc w2 (.cells #[.bool b3, .slice A3 n3 c3] 25))
  have kn2 := Bx.new w2 (w2.heap.size) (by simp) (.bool b3) (.slice A3 n3 c3)
  have B0 := B0.trans ((below_alloc w2 (.cells #[.bool b3, .slice A3 n3 c3] 25)).mono B0.size)
  have ha := ha.below (below_alloc (w2.alloc (.cells #[.bool b3, .slice A3 n3 c3] 25)) (.cells #[.bool b4, .slice A4 n4 c4] 25))
  have hb := hb.below (below_alloc (w2.alloc (.cells #[.bool b3, .slice A3 n3 c3] 25)) (.cells #[.bool b4, .slice A4 n4 c4] 25))
  have ka := ka.below (below_alloc (w2.alloc (.cells #[.bool b3, .slice A3 n3 c3] 25)) (.cells #[.bool b4, .slice A4 n4 c4] 25))
  have kb := kb.below (below_alloc (w2.alloc (.cells #[.bool b3, .slice A3 n3 c3] 25)) (.cells #[.bool b4, .slice A4 n4 c4] 25))
  have kr := kr.below (below_alloc (w2.alloc (.cells #[.bool b3, .slice A3 n3 c3] 25)) (.cells #[.bool b4, .slice A4 n4 c4] 25))
  have p1 := p1.below (below_alloc (w2.alloc (.cells #[.bool b3, .slice A3 n3 c3] 25)) (.cells #[.bool b4, .slice A4 n4 c4] 25))
  have kn1 := kn1.below (below_alloc (w2.alloc (.cells #[.bool b3, .slice A3 n3 c3] 25)) (.cells #[.bool b4, .slice A4 n4 c4] 25))
  have kd1 := kd1.below (below_alloc (w2.alloc (.cells #[.bool b3, .slice A3 n3 c3] 25)) (.cells #[.bool b4, .slice A4 n4 c4] 25))
  have p3 := p3.below (below_alloc (w2.alloc (.cells #[.bool b3, .slice A3 n3 c3] 25)) (.cells #[.bool b4, .slice A4 n4 c4] 25))
  have kn2 := kn2.below (below_alloc (w2.alloc (.cells #[.bool b3, .slice A3 n3 c3] 25)) (.cells #[.bool b4, .slice A4 n4 c4] 25))
  have kd2 := Bx.new (w2.alloc (.cells #[.bool b3, .slice A3 n3 c3] 25)) (w2.heap.size + 1) (by simp) (.bool b4) (.slice A4 n4 c4)
  have B0 := B0.trans ((below_alloc (w2.alloc (.cells #[.bool b3, .slice A3 n3 c3] 25)) (.cells #[.bool b4, .slice A4 n4 c4] 25)).mono B0.size)
  go_wp2_with fail
  have ha := ha.drew
  have hb := hb.drew
  have ka := ka.drew
  have kb := kb.drew
  have kr := kr.drew
  have p1 := p1.drew
  have kn1 := kn1.drew
  have kd1 := kd1.drew
  have p3 := p3.drew
  have kn2 := kn2.drew
  have kd2 := kd2.drew
  have B0 := b_drew B0
  go_region_held3 (fun w' => w'.cell? ⟨w.heap.size, 0, none⟩ = some (.bool ba) ∧ w'.cell? ⟨w.heap.size, 1, none⟩ = some (.slice Aa na ca) ∧ w'.cell? ⟨w.heap.size, 2, none⟩ = some (.slice Ba ma da) ∧ w'.cell? ⟨w.heap.size + 1, 0, none⟩ = some (.bool bb') ∧ w'.cell? ⟨w.heap.size + 1, 1, none⟩ = some (.slice Ab nb cb) ∧ w'.cell? ⟨w.heap.size + 1, 2, none⟩ = some (.slice Bb mb db) ∧ w'.cell? ⟨w1.heap.size, 0, none⟩ = some (.bool b1) ∧ w'.cell? ⟨w1.heap.size, 1, none⟩ = some (.slice A1 n1 c1) ∧ w'.cell? ⟨w1.heap.size + 1, 0, none⟩ = some (.bool b2) ∧ w'.cell? ⟨w1.heap.size + 1, 1, none⟩ = some (.slice A2 n2 c2) ∧ w'.cell? ⟨w2.heap.size, 0, none⟩ = some (.bool b3) ∧ w'.cell? ⟨w2.heap.size, 1, none⟩ = some (.slice A3 n3 c3) ∧ w'.cell? ⟨w2.heap.size + 1, 0, none⟩ = some (.bool b4) ∧ w'.cell? ⟨w2.heap.size + 1, 1, none⟩ = some (.slice A4 n4 c4)) (first | with_reducible exact ⟨ka.c0, ka.c1, ka.c2, kb.c0, kb.c1, kb.c2, kn1.c0, kn1.c1, kd1.c0, kd1.c1, kn2.c0, kn2.c1, kd2.c0, kd2.c1⟩ | with_reducible exact ⟨(ka.ret3 (r := w.heap.size + 1 + 1) (by omega) _ _ _).c0, (ka.ret3 (r := w.heap.size + 1 + 1) (by omega) _ _ _).c1, (ka.ret3 (r := w.heap.size + 1 + 1) (by omega) _ _ _).c2, (kb.ret3 (r := w.heap.size + 1 + 1) (by omega) _ _ _).c0, (kb.ret3 (r := w.heap.size + 1 + 1) (by omega) _ _ _).c1, (kb.ret3 (r := w.heap.size + 1 + 1) (by omega) _ _ _).c2, (kn1.ret3 (r := w.heap.size + 1 + 1) (by omega) _ _ _).c0, (kn1.ret3 (r := w.heap.size + 1 + 1) (by omega) _ _ _).c1, (kd1.ret3 (r := w.heap.size + 1 + 1) (by omega) _ _ _).c0, (kd1.ret3 (r := w.heap.size + 1 + 1) (by omega) _ _ _).c1, (kn2.ret3 (r := w.heap.size + 1 + 1) (by omega) _ _ _).c0, (kn2.ret3 (r := w.heap.size + 1 + 1) (by omega) _ _ _).c1, (kd2.ret3 (r := w.heap.size + 1 + 1) (by omega) _ _ _).c0, (kd2.ret3 (r := w.heap.size + 1 + 1) (by omega) _ _ _).c1⟩)
    (first
      | (go_at_call 44; (with_reducible refine (imul_i p1 p3 ?_ ?_).mono ?_); omega; omega; rintro e w3 ⟨v5, rfl, z5, bb⟩; have ha := ha.below bb; have hb := hb.below bb; have ka := ka.below bb; have kb := kb.below bb; have kr := kr.below bb; have p1 := p1.below bb; have kn1 := kn1.below bb; have kd1 := kd1.below bb; have p3 := p3.below bb; have kn2 := kn2.below bb; have kd2 := kd2.below bb; have B0 := B0.trans (bb.mono B0.size); clear bb; obtain ⟨b5, A5, n5, c5, rfl, z5⟩ := z5.cells)
      | (go_at_call 45; (with_reducible refine (denominator_q ha hb ?_ ?_).mono ?_); omega; omega; rintro e w4 ⟨v6, rfl, z6, bb⟩; have ha := ha.below bb; have hb := hb.below bb; have ka := ka.below bb; have kb := kb.below bb; have kr := kr.below bb; have kn1 := kn1.below bb; have kd1 := kd1.below bb; have kn2 := kn2.below bb; have kd2 := kd2.below bb; have z5 := z5.below bb; have B0 := B0.trans (bb.mono B0.size); clear bb; obtain ⟨b6, A6, n6, c6, rfl, z6⟩ := z6.cells)
      | (go_at_call 40; (with_reducible refine (reduce_q z5.iv z6.iv ?_ ?_ HD.out _ HX.out).mono ?_); omega; omega; rintro e w5 ⟨br, Ar, nr, cr, Br, mr, dr, rfl, zr, bb⟩; have ha := ha.below bb; have hb := hb.below bb; have ka := ka.below bb; have kb := kb.below bb; have kr := kr.below bb; have kn1 := kn1.below bb; have kd1 := kd1.below bb; have kn2 := kn2.below bb; have kd2 := kd2.below bb; have z5 := z5.below bb; have z6 := z6.below bb; have B0 := B0.trans (bb.mono B0.size); clear bb; have ka_0 := ka.c0; have ka_1 := ka.c1; have ka_2 := ka.c2; have kb_0 := kb.c0; have kb_1 := kb.c1; have kb_2 := kb.c2; have kn1_0 := kn1.c0; have kn1_1 := kn1.c1; have kd1_0 := kd1.c0; have kd1_1 := kd1.c1; have kn2_0 := kn2.c0; have kn2_1 := kn2.c1; have kd2_0 := kd2.c0; have kd2_1 := kd2.c1; have kr_0 := kr.1; have kr_1 := kr.2.1; have kr_2 := kr.2.2.1; have kr_3 := kr.2.2.2.1; have kr_4 := kr.2.2.2.2.1; have kr_5 := kr.2.2.2.2.2))
  go_wp2
  refine bodyPost_ret (v := .agg #[.bool br, .slice Ar nr cr, .slice Br mr dr]) (by simp [results, Tryz.results18, go_sem, kr_0, kr_1, kr_2]) rfl ⟨_, _, _, _, _, _, _, rfl, zr.ret3 kr _ _ _, below_ret3 B0 (by omega) _ _ _⟩
set_option maxRecDepth 20000 in
set_option maxHeartbeats 2000000 in
theorem divide_0 {w : World} {va vb : Value} {z y : Int} {k j : Nat} (ha : Iv w va z k) (hb : Iv w vb y j) (h0 : y = 0) : Calls Tryz.prog 42 #[va, vb] w (Q0End w) := by
  obtain ⟨ba, Aa, na, ca, rfl, _, _⟩ := ha.named
  obtain ⟨bb', Ab, nb, cb, mb, rfl, hmb, hyb⟩ := hb
  obtain rfl : mb = 0 := by cases bb' <;> simp [sgn] at hyb <;> omega
  clear hyb h0
  have B0 := below_a3 w (.cells #[.bool ba, .slice Aa na ca] 25) (.cells #[.bool bb', .slice Ab nb cb] 25) (.cells #[.bool false, .slice none 0 0, .slice none 0 0] 27)
  have hmb := hmb.below B0
  have ka := (((Bx.new w (w.heap.size) (by simp) (.bool ba) (.slice Aa na ca)).below (below_alloc (w.alloc (.cells #[.bool ba, .slice Aa na ca] 25)) (.cells #[.bool bb', .slice Ab nb cb] 25))).below (below_alloc ((w.alloc (.cells #[.bool ba, .slice Aa na ca] 25)).alloc (.cells #[.bool bb', .slice Ab nb cb] 25)) (.cells #[.bool false, .slice none 0 0, .slice none 0 0] 27)))
  have kb := ((Bx.new (w.alloc (.cells #[.bool ba, .slice Aa na ca] 25)) (w.heap.size + 1) (by simp) (.bool bb') (.slice Ab nb cb)).below (below_alloc ((w.alloc (.cells #[.bool ba, .slice Aa na ca] 25)).alloc (.cells #[.bool bb', .slice Ab nb cb] 25)) (.cells #[.bool false, .slice none 0 0, .slice none 0 0] 27)))
  have kr := (Rq.new ((w.alloc (.cells #[.bool ba, .slice Aa na ca] 25)).alloc (.cells #[.bool bb', .slice Ab nb cb] 25)) (w.heap.size + 1 + 1) (by simp))
  go_enter Tryz.func42, Tryz.ntmps42
  have ka_0 := ka.c0
  have ka_1 := ka.c1
  have kb_0 := kb.c0
  have kb_1 := kb.c1
  have kr_0 := kr.1
  have kr_1 := kr.2.1
  have kr_2 := kr.2.2.1
  have kr_3 := kr.2.2.2.1
  have kr_4 := kr.2.2.2.2.1
  have kr_5 := kr.2.2.2.2.2
  go_wp2_with fail
  refine (iszero_n hmb true rfl).mono ?_
  clear ka_0 ka_1 kb_0 kb_1 kr_0 kr_1 kr_2 kr_3 kr_4 kr_5
  rintro e w1 ⟨rfl, bb⟩
  have hmb := hmb.below bb
  have ka := ka.below bb
  have kb := kb.below bb
  have kr := kr.below bb
  have B0 := B0.trans (bb.mono B0.size)
  clear bb
  have ka_0 := ka.c0
  have ka_1 := ka.c1
  have kb_0 := kb.c0
  have kb_1 := kb.c1
  have kr_0 := kr.1
  have kr_1 := kr.2.1
  have kr_2 := kr.2.2.1
  have kr_3 := kr.2.2.2.1
  have kr_4 := kr.2.2.2.2.1
  have kr_5 := kr.2.2.2.2.2
  go_wp2
  refine bodyPost_ret (v := .tuple #[.agg #[.bool false, .slice none 0 0, .slice none 0 0], .bool false]) (by simp [results, Tryz.results42, go_sem, kr_0, kr_1, kr_2]) rfl ⟨rfl, below_ret3 B0 (by omega) _ _ _⟩
set_option maxRecDepth 20000 in
set_option maxHeartbeats 2000000 in
theorem divide_p {w : World} {va vb : Value} {z y : Int} {k j : Nat} (ha : Iv w va z k) (hb : Iv w vb y j) (hk : k ≤ 900) (hj : j ≤ 900) (h0 : y ≠ 0) (x : Rat) (hx : (z : Rat) / (y : Rat) = x) : Calls Tryz.prog 42 #[va, vb] w (QbEnd x k j w) := by
  obtain ⟨ba, Aa, na, ca, rfl, _, _⟩ := ha.named
  obtain ⟨bb', Ab, nb, cb, mb, rfl, hmb, hyb⟩ := hb
  have hz : decide (mb = 0) = false := decide_eq_false (by rintro rfl; exact h0 (by rw [hyb, sgn_zero]))
  have hb : Iv w (.agg #[.bool bb', .slice Ab nb cb]) y j := ⟨_, _, _, _, mb, rfl, hmb, hyb⟩
  clear hyb
  have HZ := Lib.hid hz
  clear hz
  have H0 := Lib.hid h0
  clear h0
  have HX := Lib.hid hx
  clear hx
  have B0 := below_a3 w (.cells #[.bool ba, .slice Aa na ca] 25) (.cells #[.bool bb', .slice Ab nb cb] 25) (.cells #[.bool false, .slice none 0 0, .slice none 0 0] 27)
  have ha := ha.below B0
  have hb := hb.below B0
  have hmb := hmb.below B0
  have ka := (((Bx.new w (w.heap.size) (by simp) (.bool ba) (.slice Aa na ca)).below (below_alloc (w.alloc (.cells #[.bool ba, .slice Aa na ca] 25)) (.cells #[.bool bb', .slice Ab nb cb] 25))).below (below_alloc ((w.alloc (.cells #[.bool ba, .slice Aa na ca] 25)).alloc (.cells #[.bool bb', .slice Ab nb cb] 25)) (.cells #[.bool false, .slice none 0 0, .slice none 0 0] 27)))
  have kb := ((Bx.new (w.alloc (.cells #[.bool ba, .slice Aa na ca] 25)) (w.heap.size + 1) (by simp) (.bool bb') (.slice Ab nb cb)).below (below_alloc ((w.alloc (.cells #[.bool ba, .slice Aa na ca] 25)).alloc (.cells #[.bool bb', .slice Ab nb cb] 25)) (.cells #[.bool false, .slice none 0 0, .slice none 0 0] 27)))
  have kr := (Rq.new ((w.alloc (.cells #[.bool ba, .slice Aa na ca] 25)).alloc (.cells #[.bool bb', .slice Ab nb cb] 25)) (w.heap.size + 1 + 1) (by simp))
  go_enter Tryz.func42, Tryz.ntmps42
  have ka_0 := ka.c0
  have ka_1 := ka.c1
  have kb_0 := kb.c0
  have kb_1 := kb.c1
  have kr_0 := kr.1
  have kr_1 := kr.2.1
  have kr_2 := kr.2.2.1
  have kr_3 := kr.2.2.2.1
  have kr_4 := kr.2.2.2.2.1
  have kr_5 := kr.2.2.2.2.2
  go_wp2_with fail
  refine (iszero_n hmb false HZ.out).mono ?_
  clear ka_0 ka_1 kb_0 kb_1 kr_0 kr_1 kr_2 kr_3 kr_4 kr_5
  rintro e w1 ⟨rfl, bb⟩
  have ha := ha.below bb
  have hb := hb.below bb
  have hmb := hmb.below bb
  have ka := ka.below bb
  have kb := kb.below bb
  have kr := kr.below bb
  have B0 := B0.trans (bb.mono B0.size)
  clear bb
  have ka_0 := ka.c0
  have ka_1 := ka.c1
  have kb_0 := kb.c0
  have kb_1 := kb.c1
  have kr_0 := kr.1
  have kr_1 := kr.2.1
  have kr_2 := kr.2.2.1
  have kr_3 := kr.2.2.2.1
  have kr_4 := kr.2.2.2.2.1
  have kr_5 := kr.2.2.2.2.2
  go_wp2_with fail
  refine (reduce_q ha hb (by omega) (by omega) H0.out _ HX.out).mono ?_
  clear ka_0 ka_1 kb_0 kb_1 kr_0 kr_1 kr_2 kr_3 kr_4 kr_5
  rintro e w2 ⟨br, Ar, nr, cr, Br, mr, dr, rfl, zr, bb⟩
  have ha := ha.below bb
  have hb := hb.below bb
  have hmb := hmb.below bb
  have ka := ka.below bb
  have kb := kb.below bb
  have kr := kr.below bb
  have B0 := B0.trans (bb.mono B0.size)
  clear bb
  have ka_0 := ka.c0
  have ka_1 := ka.c1
  have kb_0 := kb.c0
  have kb_1 := kb.c1
  have kr_0 := kr.1
  have kr_1 := kr.2.1
  have kr_2 := kr.2.2.1
  have kr_3 := kr.2.2.2.1
  have kr_4 := kr.2.2.2.2.1
  have kr_5 := kr.2.2.2.2.2
  go_wp2
  refine bodyPost_ret (v := .tuple #[.agg #[.bool br, .slice Ar nr cr, .slice Br mr dr], .bool true]) (by simp [results, Tryz.results42, go_sem, kr_0, kr_1, kr_2]) rfl ⟨_, _, _, _, _, _, _, rfl, zr.ret3 kr _ _ _, below_ret3 B0 (by omega) _ _ _⟩
set_option maxRecDepth 20000 in
set_option maxHeartbeats 2000000 in
theorem qof_0 (a b : Int) (ha : -9223372036854775808 ≤ a) (ha' : a < 9223372036854775808) (hb : -9223372036854775808 ≤ b) (hb' : b < 9223372036854775808) (w : World) (h0 : b = 0) : Calls Tryz.prog 17 #[.int .i64 a, .int .i64 b] w (Q0End w) := by
  have H0 := Lib.hid h0
  clear h0
  have B0 := below_a1 w (.cells #[.bool false, .slice none 0 0, .slice none 0 0] 27)
  have kr := (Rq.new w (w.heap.size) (by simp))
  go_enter Tryz.func17, Tryz.ntmps17
  have kr_0 := kr.1
  have kr_1 := kr.2.1
  have kr_2 := kr.2.2.1
  have kr_3 := kr.2.2.2.1
  have kr_4 := kr.2.2.2.2.1
  have kr_5 := kr.2.2.2.2.2
  go_wp2_with fail
  refine (iof_i a ha ha' _).mono ?_
  clear kr_0 kr_1 kr_2 kr_3 kr_4 kr_5
  rintro e w1 ⟨v1, rfl, z1, bb⟩
  have kr := kr.below bb
  have B0 := B0.trans (bb.mono B0.size)
  clear bb
  have kr_0 := kr.1
  have kr_1 := kr.2.1
  have kr_2 := kr.2.2.1
  have kr_3 := kr.2.2.2.1
  have kr_4 := kr.2.2.2.2.1
  have kr_5 := kr.2.2.2.2.2
  go_wp2_with fail
  refine (iof_i b hb hb' _).mono ?_
  clear kr_0 kr_1 kr_2 kr_3 kr_4 kr_5
  rintro e w2 ⟨v2, rfl, z2, bb⟩
  have kr := kr.below bb
  have z1 := z1.below bb
  have B0 := B0.trans (bb.mono B0.size)
  clear bb
  have kr_0 := kr.1
  have kr_1 := kr.2.1
  have kr_2 := kr.2.2.1
  have kr_3 := kr.2.2.2.1
  have kr_4 := kr.2.2.2.2.1
  have kr_5 := kr.2.2.2.2.2
  go_wp2_with fail
  refine (divide_0 z1.iv z2.iv H0.out).mono ?_
  clear kr_0 kr_1 kr_2 kr_3 kr_4 kr_5
  rintro e w3 ⟨rfl, bb⟩
  have kr := kr.below bb
  have z1 := z1.below bb
  have z2 := z2.below bb
  have B0 := B0.trans (bb.mono B0.size)
  clear bb
  have kr_0 := kr.1
  have kr_1 := kr.2.1
  have kr_2 := kr.2.2.1
  have kr_3 := kr.2.2.2.1
  have kr_4 := kr.2.2.2.2.1
  have kr_5 := kr.2.2.2.2.2
  go_wp2
  refine bodyPost_ret (v := .tuple #[.agg #[.bool false, .slice none 0 0, .slice none 0 0], .bool false]) (by simp [results, Tryz.results17, go_sem, kr_0, kr_1, kr_2]) rfl ⟨rfl, below_ret3 B0 (by omega) _ _ _⟩
set_option maxRecDepth 20000 in
set_option maxHeartbeats 2000000 in
theorem qof_p (a b : Int) (ha : -9223372036854775808 ≤ a) (ha' : a < 9223372036854775808) (hb : -9223372036854775808 ≤ b) (hb' : b < 9223372036854775808) (w : World) (h0 : b ≠ 0) (x : Rat) (hx : (a : Rat) / (b : Rat) = x) : Calls Tryz.prog 17 #[.int .i64 a, .int .i64 b] w (QbEnd x 2 2 w) := by
  have H0 := Lib.hid h0
  clear h0
  have HX := Lib.hid hx
  clear hx
  have B0 := below_a1 w (.cells #[.bool false, .slice none 0 0, .slice none 0 0] 27)
  have kr := (Rq.new w (w.heap.size) (by simp))
  go_enter Tryz.func17, Tryz.ntmps17
  have kr_0 := kr.1
  have kr_1 := kr.2.1
  have kr_2 := kr.2.2.1
  have kr_3 := kr.2.2.2.1
  have kr_4 := kr.2.2.2.2.1
  have kr_5 := kr.2.2.2.2.2
  go_wp2_with fail
  refine (iof_i a ha ha' _).mono ?_
  clear kr_0 kr_1 kr_2 kr_3 kr_4 kr_5
  rintro e w1 ⟨v1, rfl, z1, bb⟩
  have kr := kr.below bb
  have B0 := B0.trans (bb.mono B0.size)
  clear bb
  have kr_0 := kr.1
  have kr_1 := kr.2.1
  have kr_2 := kr.2.2.1
  have kr_3 := kr.2.2.2.1
  have kr_4 := kr.2.2.2.2.1
  have kr_5 := kr.2.2.2.2.2
  go_wp2_with fail
  refine (iof_i b hb hb' _).mono ?_
  clear kr_0 kr_1 kr_2 kr_3 kr_4 kr_5
  rintro e w2 ⟨v2, rfl, z2, bb⟩
  have kr := kr.below bb
  have z1 := z1.below bb
  have B0 := B0.trans (bb.mono B0.size)
  clear bb
  have kr_0 := kr.1
  have kr_1 := kr.2.1
  have kr_2 := kr.2.2.1
  have kr_3 := kr.2.2.2.1
  have kr_4 := kr.2.2.2.2.1
  have kr_5 := kr.2.2.2.2.2
  go_wp2_with fail
  refine (divide_p z1.iv z2.iv (by omega) (by omega) H0.out _ HX.out).mono ?_
  clear kr_0 kr_1 kr_2 kr_3 kr_4 kr_5
  rintro e w3 ⟨br, Ar, nr, cr, Br, mr, dr, rfl, zr, bb⟩
  have kr := kr.below bb
  have z1 := z1.below bb
  have z2 := z2.below bb
  have B0 := B0.trans (bb.mono B0.size)
  clear bb
  have kr_0 := kr.1
  have kr_1 := kr.2.1
  have kr_2 := kr.2.2.1
  have kr_3 := kr.2.2.2.1
  have kr_4 := kr.2.2.2.2.1
  have kr_5 := kr.2.2.2.2.2
  go_wp2
  refine bodyPost_ret (v := .tuple #[.agg #[.bool br, .slice Ar nr cr, .slice Br mr dr], .bool true]) (by simp [results, Tryz.results17, go_sem, kr_0, kr_1, kr_2]) rfl ⟨_, _, _, _, _, _, _, rfl, zr.ret3 kr _ _ _, below_ret3 B0 (by omega) _ _ _⟩
set_option maxRecDepth 20000 in
set_option maxHeartbeats 2000000 in
theorem qcmp_p {w : World} {va vb : Value} {z y : Int} {d e k j k' j' : Nat} (ha : Qp w va z d k j) (hb : Qp w vb y e k' j') (h1 : k ≤ 200) (h2 : k' ≤ 200) (h3 : j ≤ 200) (h4 : j' ≤ 200) (o : Int) (ho : cmpZ (z * (e : Int)) (y * (d : Int)) = o) : Calls Tryz.prog 15 #[va, vb] w (I64End o w) := by
  obtain ⟨ba, Aa, na, ca, Ba, ma, da, rfl, ha⟩ := ha.cells
  obtain ⟨bb', Ab, nb, cb, Bb, mb, db, rfl, hb⟩ := hb.cells
  have HO := Lib.hid ho
  clear ho
  have B0 := below_a2 w (.cells #[.bool ba, .slice Aa na ca, .slice Ba ma da] 27) (.cells #[.bool bb', .slice Ab nb cb, .slice Bb mb db] 27)
  have ha := ha.below B0
  have hb := hb.below B0
  have ka := ((Bq.new w (w.heap.size) (by simp) (.bool ba) (.slice Aa na ca) (.slice Ba ma da)).below (below_alloc (w.alloc (.cells #[.bool ba, .slice Aa na ca, .slice Ba ma da] 27)) (.cells #[.bool bb', .slice Ab nb cb, .slice Bb mb db] 27)))
  have kb := (Bq.new (w.alloc (.cells #[.bool ba, .slice Aa na ca, .slice Ba ma da] 27)) (w.heap.size + 1) (by simp) (.bool bb') (.slice Ab nb cb) (.slice Bb mb db))
  go_enter Tryz.func15, Tryz.ntmps15
  have ka_0 := ka.c0
  have ka_1 := ka.c1
  have ka_2 := ka.c2
  have kb_0 := kb.c0
  have kb_1 := kb.c1
  have kb_2 := kb.c2
  go_wp2_with fail
  refine (cross_q ha hb (by omega) (by omega) (by omega) (by omega)).mono ?_
  clear ka_0 ka_1 ka_2 kb_0 kb_1 kb_2
  rintro e w1 ⟨b1, A1, n1, c1, b2, A2, n2, c2, rfl, p1, p2, bb⟩
  have ha := ha.below bb
  have hb := hb.below bb
  have ka := ka.below bb
  have kb := kb.below bb
  have B0 := B0.trans (bb.mono B0.size)
  clear bb
  have ka_0 := ka.c0
  have ka_1 := ka.c1
  have ka_2 := ka.c2
  have kb_0 := kb.c0
  have kb_1 := kb.c1
  have kb_2 := kb.c2
  go_wp2_with fail
  refine (icmp_i p1 p2 _ HO.out).mono ?_
  clear ka_0 ka_1 ka_2 kb_0 kb_1 kb_2
  rintro e w2 ⟨rfl, bb⟩
  have ha := ha.below bb
  have hb := hb.below bb
  have ka := ka.below bb
  have kb := kb.below bb
  have p1 := p1.below bb
  have p2 := p2.below bb
  have B0 := B0.trans (bb.mono B0.size)
  clear bb
  go_wp2
  go_ret
  exact ⟨rfl, B0⟩
set_option maxRecDepth 20000 in
set_option maxHeartbeats 2000000 in
theorem qdiv_0 {w : World} {va vb : Value} {z y : Int} {d e k j k' j' : Nat} (ha : Qp w va z d k j) (hb : Qp w vb y e k' j') (h1 : k ≤ 150) (h2 : k' ≤ 150) (h3 : j ≤ 150) (h4 : j' ≤ 150) (h0 : y * (d : Int) = 0) : Calls Tryz.prog 29 #[va, vb] w (Q0End w) := by
  obtain ⟨ba, Aa, na, ca, Ba, ma, da, rfl, ha⟩ := ha.cells
  obtain ⟨bb', Ab, nb, cb, Bb, mb, db, rfl, hb⟩ := hb.cells
  have H0 := Lib.hid h0
  clear h0
  have B0 := below_a3 w (.cells #[.bool ba, .slice Aa na ca, .slice Ba ma da] 27) (.cells #[.bool bb', .slice Ab nb cb, .slice Bb mb db] 27) (.cells #[.bool false, .slice none 0 0, .slice none 0 0] 27)
  have ha := ha.below B0
  have hb := hb.below B0
  have ka := (((Bq.new w (w.heap.size) (by simp) (.bool ba) (.slice Aa na ca) (.slice Ba ma da)).below (below_alloc (w.alloc (.cells #[.bool ba, .slice Aa na ca, .slice Ba ma da] 27)) (.cells #[.bool bb', .slice Ab nb cb, .slice Bb mb db] 27))).below (below_alloc ((w.alloc (.cells #[.bool ba, .slice Aa na ca, .slice Ba ma da] 27)).alloc (.cells #[.bool bb', .slice Ab nb cb, .slice Bb mb db] 27)) (.cells #[.bool false, .slice none 0 0, .slice none 0 0] 27)))
  have kb := ((Bq.new (w.alloc (.cells #[.bool ba, .slice Aa na ca, .slice Ba ma da] 27)) (w.heap.size + 1) (by simp) (.bool bb') (.slice Ab nb cb) (.slice Bb mb db)).below (below_alloc ((w.alloc (.cells #[.bool ba, .slice Aa na ca, .slice Ba ma da] 27)).alloc (.cells #[.bool bb', .slice Ab nb cb, .slice Bb mb db] 27)) (.cells #[.bool false, .slice none 0 0, .slice none 0 0] 27)))
  have kr := (Rq.new ((w.alloc (.cells #[.bool ba, .slice Aa na ca, .slice Ba ma da] 27)).alloc (.cells #[.bool bb', .slice Ab nb cb, .slice Bb mb db] 27)) (w.heap.size + 1 + 1) (by simp))
  go_enter Tryz.func29, Tryz.ntmps29
  have ka_0 := ka.c0
  have ka_1 := ka.c1
  have ka_2 := ka.c2
  have kb_0 := kb.c0
  have kb_1 := kb.c1
  have kb_2 := kb.c2
  have kr_0 := kr.1
  have kr_1 := kr.2.1
  have kr_2 := kr.2.2.1
  have kr_3 := kr.2.2.2.1
  have kr_4 := kr.2.2.2.2.1
  have kr_5 := kr.2.2.2.2.2
  go_wp2_with fail
  refine (cross_q ha hb (by omega) (by omega) (by omega) (by omega)).mono ?_
  clear ka_0 ka_1 ka_2 kb_0 kb_1 kb_2 kr_0 kr_1 kr_2 kr_3 kr_4 kr_5
  rintro e w1 ⟨b1, A1, n1, c1, b2, A2, n2, c2, rfl, p1, p2, bb⟩
  have ha := ha.below bb
  have hb := hb.below bb
  have ka := ka.below bb
  have kb := kb.below bb
  have kr := kr.below bb
  have B0 := B0.trans (bb.mono B0.size)
  clear bb
  have ka_0 := ka.c0
  have ka_1 := ka.c1
  have ka_2 := ka.c2
  have kb_0 := kb.c0
  have kb_1 := kb.c1
  have kb_2 := kb.c2
  have kr_0 := kr.1
  have kr_1 := kr.2.1
  have kr_2 := kr.2.2.1
  have kr_3 := kr.2.2.2.1
  have kr_4 := kr.2.2.2.2.1
  have kr_5 := kr.2.2.2.2.2
  go_wp2_with fail
  refine (divide_0 p1 p2 H0.out).mono ?_
  clear ka_0 ka_1 ka_2 kb_0 kb_1 kb_2 kr_0 kr_1 kr_2 kr_3 kr_4 kr_5
  rintro e w2 ⟨rfl, bb⟩
  have ha := ha.below bb
  have hb := hb.below bb
  have ka := ka.below bb
  have kb := kb.below bb
  have kr := kr.below bb
  have p1 := p1.below bb
  have p2 := p2.below bb
  have B0 := B0.trans (bb.mono B0.size)
  clear bb
  have ka_0 := ka.c0
  have ka_1 := ka.c1
  have ka_2 := ka.c2
  have kb_0 := kb.c0
  have kb_1 := kb.c1
  have kb_2 := kb.c2
  have kr_0 := kr.1
  have kr_1 := kr.2.1
  have kr_2 := kr.2.2.1
  have kr_3 := kr.2.2.2.1
  have kr_4 := kr.2.2.2.2.1
  have kr_5 := kr.2.2.2.2.2
  go_wp2
  refine bodyPost_ret (v := .tuple #[.agg #[.bool false, .slice none 0 0, .slice none 0 0], .bool false]) (by simp [results, Tryz.results29, go_sem, kr_0, kr_1, kr_2]) rfl ⟨rfl, below_ret3 B0 (by omega) _ _ _⟩
set_option maxRecDepth 20000 in
set_option maxHeartbeats 2000000 in
theorem qdiv_p {w : World} {va vb : Value} {z y : Int} {d e k j k' j' : Nat} (ha : Qp w va z d k j) (hb : Qp w vb y e k' j') (h1 : k ≤ 150) (h2 : k' ≤ 150) (h3 : j ≤ 150) (h4 : j' ≤ 150) (h0 : y * (d : Int) ≠ 0) (x : Rat) (hx : ((z * (e : Int) : Int) : Rat) / ((y * (d : Int) : Int) : Rat) = x) : Calls Tryz.prog 29 #[va, vb] w (QbEnd x (k + max j' 2) (k' + max j 2) w) := by
  obtain ⟨ba, Aa, na, ca, Ba, ma, da, rfl, ha⟩ := ha.cells
  obtain ⟨bb', Ab, nb, cb, Bb, mb, db, rfl, hb⟩ := hb.cells
  have H0 := Lib.hid h0
  clear h0
  have HX := Lib.hid hx
  clear hx
  have B0 := below_a3 w (.cells #[.bool ba, .slice Aa na ca, .slice Ba ma da] 27) (.cells #[.bool bb', .slice Ab nb cb, .slice Bb mb db] 27) (.cells #[.bool false, .slice none 0 0, .slice none 0 0] 27)
  have ha := ha.below B0
  have hb := hb.below B0
  have ka := (((Bq.new w (w.heap.size) (by simp) (.bool ba) (.slice Aa na ca) (.slice Ba ma da)).below (below_alloc (w.alloc (.cells #[.bool ba, .slice Aa na ca, .slice Ba ma da] 27)) (.cells #[.bool bb', .slice Ab nb cb, .slice Bb mb db] 27))).below (below_alloc ((w.alloc (.cells #[.bool ba, .slice Aa na ca, .slice Ba ma da] 27)).alloc (.cells #[.bool bb', .slice Ab nb cb, .slice Bb mb db] 27)) (.cells #[.bool false, .slice none 0 0, .slice none 0 0] 27)))
  have kb := ((Bq.new (w.alloc (.cells #[.bool ba, .slice Aa na ca, .slice Ba ma da] 27)) (w.heap.size + 1) (by simp) (.bool bb') (.slice Ab nb cb) (.slice Bb mb db)).below (below_alloc ((w.alloc (.cells #[.bool ba, .slice Aa na ca, .slice Ba ma da] 27)).alloc (.cells #[.bool bb', .slice Ab nb cb, .slice Bb mb db] 27)) (.cells #[.bool false, .slice none 0 0, .slice none 0 0] 27)))
  have kr := (Rq.new ((w.alloc (.cells #[.bool ba, .slice Aa na ca, .slice Ba ma da] 27)).alloc (.cells #[.bool bb', .slice Ab nb cb, .slice Bb mb db] 27)) (w.heap.size + 1 + 1) (by simp))
  go_enter Tryz.func29, Tryz.ntmps29
  have ka_0 := ka.c0
  have ka_1 := ka.c1
  have ka_2 := ka.c2
  have kb_0 := kb.c0
  have kb_1 := kb.c1
  have kb_2 := kb.c2
  have kr_0 := kr.1
  have kr_1 := kr.2.1
  have kr_2 := kr.2.2.1
  have kr_3 := kr.2.2.2.1
  have kr_4 := kr.2.2.2.2.1
  have kr_5 := kr.2.2.2.2.2
  go_wp2_with fail
  refine (cross_q ha hb (by omega) (by omega) (by omega) (by omega)).mono ?_
  clear ka_0 ka_1 ka_2 kb_0 kb_1 kb_2 kr_0 kr_1 kr_2 kr_3 kr_4 kr_5
  rintro e w1 ⟨b1, A1, n1, c1, b2, A2, n2, c2, rfl, p1, p2, bb⟩
  have ha := ha.below bb
  have hb := hb.below bb
  have ka := ka.below bb
  have kb := kb.below bb
  have kr := kr.below bb
  have B0 := B0.trans (bb.mono B0.size)
  clear bb
  have ka_0 := ka.c0
  have ka_1 := ka.c1
  have ka_2 := ka.c2
  have kb_0 := kb.c0
  have kb_1 := kb.c1
  have kb_2 := kb.c2
  have kr_0 := kr.1
  have kr_1 := kr.2.1
  have kr_2 := kr.2.2.1
  have kr_3 := kr.2.2.2.1
  have kr_4 := kr.2.2.2.2.1
  have kr_5 := kr.2.2.2.2.2
  go_wp2_with fail
  refine (divide_p p1 p2 (by omega) (by omega) H0.out _ HX.out).mono ?_
  clear ka_0 ka_1 ka_2 kb_0 kb_1 kb_2 kr_0 kr_1 kr_2 kr_3 kr_4 kr_5
  rintro e w2 ⟨br, Ar, nr, cr, Br, mr, dr, rfl, zr, bb⟩
  have ha := ha.below bb
  have hb := hb.below bb
  have ka := ka.below bb
  have kb := kb.below bb
  have kr := kr.below bb
  have p1 := p1.below bb
  have p2 := p2.below bb
  have B0 := B0.trans (bb.mono B0.size)
  clear bb
  have ka_0 := ka.c0
  have ka_1 := ka.c1
  have ka_2 := ka.c2
  have kb_0 := kb.c0
  have kb_1 := kb.c1
  have kb_2 := kb.c2
  have kr_0 := kr.1
  have kr_1 := kr.2.1
  have kr_2 := kr.2.2.1
  have kr_3 := kr.2.2.2.1
  have kr_4 := kr.2.2.2.2.1
  have kr_5 := kr.2.2.2.2.2
  go_wp2
  refine bodyPost_ret (v := .tuple #[.agg #[.bool br, .slice Ar nr cr, .slice Br mr dr], .bool true]) (by simp [results, Tryz.results29, go_sem, kr_0, kr_1, kr_2]) rfl ⟨_, _, _, _, _, _, _, rfl, zr.ret3 kr _ _ _, below_ret3 B0 (by omega) _ _ _⟩
set_option maxRecDepth 20000 in
set_option maxHeartbeats 2000000 in
theorem qfloor_p {w : World} {va : Value} {z : Int} {d k j : Nat} (ha : Qp w va z d k j) (hk : k ≤ 300) (hj : j ≤ 300) (hd : ((d : Int)) ≠ 0) : Calls Tryz.prog 31 #[va] w (IEnd (z / (d : Int)) (k + 3) w) := by
  obtain ⟨ba, Aa, na, ca, Ba, ma, da, rfl, ha⟩ := ha.cells
  have HD := Lib.hid hd
  clear hd
  have B0 := below_a2 w (.cells #[.bool ba, .slice Aa na ca, .slice Ba ma da] 27) (.cells #[.bool false, .slice none 0 0] 25)
  have ha := ha.below B0
  have ka := ((Bq.new w (w.heap.size) (by simp) (.bool ba) (.slice Aa na ca) (.slice Ba ma da)).below (below_alloc (w.alloc (.cells #[.bool ba, .slice Aa na ca, .slice Ba ma da] 27)) (.cells #[.bool false, .slice none 0 0] 25)))
  have kr := (Rx.new (w.alloc (.cells #[.bool ba, .slice Aa na ca, .slice Ba ma da] 27)) (w.heap.size + 1) (by simp))
  go_enter Tryz.func31, Tryz.ntmps31
  have ka_0 := ka.c0
  have ka_1 := ka.c1
  have ka_2 := ka.c2
  have kr_0 := kr.1
  have kr_1 := kr.2.1
  have kr_2 := kr.2.2.1
  have kr_3 := kr.2.2.2
  go_wp2_with fail
  refine (parts_q ha).mono ?_
  clear ka_0 ka_1 ka_2 kr_0 kr_1 kr_2 kr_3
  rintro e w1 ⟨b1, A1, n1, c1, b2, A2, n2, c2, rfl, p1, p2, bb⟩
  have ha := ha.below bb
  have ka := ka.below bb
  have kr := kr.below bb
  have B0 := B0.trans (bb.mono B0.size)
  clear bb
  have kr_0 := kr.1
  have kr_1 := kr.2.1
  have kr_2 := kr.2.2.1
  have kr_3 := kr.2.2.2
  go_wp2_with fail
  refine (idiv_i p1 p2 (by omega) (by omega) HD.out).mono ?_
  clear kr_0 kr_1 kr_2 kr_3
  rintro e w2 ⟨v5, v6, rfl, z5, z6, bb⟩
  have kr := kr.below bb
  have p1 := p1.below bb
  have p2 := p2.below bb
  have B0 := B0.trans (bb.mono B0.size)
  clear bb
  obtain ⟨b5, A5, n5, c5, rfl, z5⟩ := z5.cells
  obtain ⟨b6, A6, n6, c6, rfl, z6⟩ := z6.cells
  have lkr_w2 := kr.apart.1
  have kr := kr.below (below_alloc w2 (.cells #[.bool b5, .slice A5 n5 c5] 25))
  have z5 := z5.below (below_alloc w2 (.cells #[.bool b5, .slice A5 n5 c5] 25))
  have z6 := z6.below (below_alloc w2 (.cells #[.bool b5, .slice A5 n5 c5] 25))
  have kq := Bx.new w2 (w2.heap.size) (by simp) (.bool b5) (.slice A5 n5 c5)
  have B0 := B0.trans ((below_alloc w2 (.cells #[.bool b5, .slice A5 n5 c5] 25)).mono B0.size)
  have kr := kr.below (below_alloc (w2.alloc (.cells #[.bool b5, .slice A5 n5 c5] 25)) (.cells #[.bool b6, .slice A6 n6 c6] 25))
  have z5 := z5.below (below_alloc (w2.alloc (.cells #[.bool b5, .slice A5 n5 c5] 25)) (.cells #[.bool b6, .slice A6 n6 c6] 25))
  have z6 := z6.below (below_alloc (w2.alloc (.cells #[.bool b5, .slice A5 n5 c5] 25)) (.cells #[.bool b6, .slice A6 n6 c6] 25))
  have kq := kq.below (below_alloc (w2.alloc (.cells #[.bool b5, .slice A5 n5 c5] 25)) (.cells #[.bool b6, .slice A6 n6 c6] 25))
  have ks := Bx.new (w2.alloc (.cells #[.bool b5, .slice A5 n5 c5] 25)) (w2.heap.size + 1) (by simp) (.bool b6) (.slice A6 n6 c6)
  have B0 := B0.trans ((below_alloc (w2.alloc (.cells #[.bool b5, .slice A5 n5 c5] 25)) (.cells #[.bool b6, .slice A6 n6 c6] 25)).mono B0.size)
  have kq_0 := kq.c0
  have kq_1 := kq.c1
  have ks_0 := ks.c0
  have ks_1 := ks.c1
  have kr_0 := kr.1
  have kr_1 := kr.2.1
  have kr_2 := kr.2.2.1
  have kr_3 := kr.2.2.2
  go_wp2
  refine bodyPost_ret (v := .agg #[.bool b5, .slice A5 n5 c5]) (by simp [results, Tryz.results31, go_sem, kr_0, kr_1]) rfl ⟨_, rfl, z5.ret kr _ _, below_ret B0 (by omega) _ _⟩
set_option maxRecDepth 20000 in
set_option maxHeartbeats 2000000 in
theorem qround_p {w : World} {va : Value} {z : Int} {d k j : Nat} (ha : Qp w va z d k j) (hk : k ≤ 300) (hj : j ≤ 300) (hd : 0 < d) (y : Int) (hy : ∀ b m, z = sgn b m → sgn b ((m + m + d) / (d + d)) = y) : Calls Tryz.prog 26 #[va] w (IEnd y (max k j + 5) w) := by
  obtain ⟨ba, Aa, na, ca, Ba, ma, da, rfl, ha⟩ := ha.cells
  have HP := Lib.hid hd
  have HY := Lib.hid hy
  clear hd hy
  have B0 := below_a2 w (.cells #[.bool ba, .slice Aa na ca, .slice Ba ma da] 27) (.cells #[.bool false, .slice none 0 0] 25)
  have ha := ha.below B0
  have ka := ((Bq.new w (w.heap.size) (by simp) (.bool ba) (.slice Aa na ca) (.slice Ba ma da)).below (below_alloc (w.alloc (.cells #[.bool ba, .slice Aa na ca, .slice Ba ma da] 27)) (.cells #[.bool false, .slice none 0 0] 25)))
  have kr := (Rx.new (w.alloc (.cells #[.bool ba, .slice Aa na ca, .slice Ba ma da] 27)) (w.heap.size + 1) (by simp))
  go_enter Tryz.func26, Tryz.ntmps26
  have ka_0 := ka.c0
  have ka_1 := ka.c1
  have ka_2 := ka.c2
  have kr_0 := kr.1
  have kr_1 := kr.2.1
  have kr_2 := kr.2.2.1
  have kr_3 := kr.2.2.2
  go_wp2_with fail
  refine (parts_q ha).mono ?_
  clear ka_0 ka_1 ka_2 kr_0 kr_1 kr_2 kr_3
  rintro e w1 ⟨b1, A1, n1, c1, b2, A2, n2, c2, rfl, p1, p2, bb⟩
  have ha := ha.below bb
  have ka := ka.below bb
  have kr := kr.below bb
  have B0 := B0.trans (bb.mono B0.size)
  clear bb
  have lkr_w1 := kr.apart.1
  have kr := kr.below (below_alloc w1 (.cells #[.bool b1, .slice A1 n1 c1] 25))
  have p1 := p1.below (below_alloc w1 (.cells #[.bool b1, .slice A1 n1 c1] 25))
  have p2 := p2.below (below_alloc w1 (.cells #[.bool b1, .slice A1 n1 c1] 25))
  have kn := Bx.new w1 (w1.heap.size) (by simp) (.bool b1) (.slice A1 n1 c1)
  have B0 := B0.trans ((below_alloc w1 (.cells #[.bool b1, .slice A1 n1 c1] 25)).mono B0.size)
  have kr := kr.below (below_alloc (w1.alloc (.cells #[.bool b1, .slice A1 n1 c1] 25)) (.cells #[.bool b2, .slice A2 n2 c2] 25))
  have p1 := p1.below (below_alloc (w1.alloc (.cells #[.bool b1, .slice A1 n1 c1] 25)) (.cells #[.bool b2, .slice A2 n2 c2] 25))
  have p2 := p2.below (below_alloc (w1.alloc (.cells #[.bool b1, .slice A1 n1 c1] 25)) (.cells #[.bool b2, .slice A2 n2 c2] 25))
  have kn := kn.below (below_alloc (w1.alloc (.cells #[.bool b1, .slice A1 n1 c1] 25)) (.cells #[.bool b2, .slice A2 n2 c2] 25))
  have kd := Bx.new (w1.alloc (.cells #[.bool b1, .slice A1 n1 c1] 25)) (w1.heap.size + 1) (by simp) (.bool b2) (.slice A2 n2 c2)
  have B0 := B0.trans ((below_alloc (w1.alloc (.cells #[.bool b1, .slice A1 n1 c1] 25)) (.cells #[.bool b2, .slice A2 n2 c2] 25)).mono B0.size)
  obtain ⟨x1, m1, ⟨hm1, rfl⟩, hz1⟩ := p1.nm_of
  obtain ⟨x2, m2, ⟨hm2, rfl⟩, hz2⟩ := p2.nm_of
  obtain rfl : m2 = d := by cases b2 <;> simp [sgn] at hz2 <;> omega
  have hy2 := HY.out _ _ hz1
  have HY2 := Lib.hid hy2
  have hpp : 0 < m2 + m2 := by have := HP.out; omega
  have HPP := Lib.hid hpp
  clear hz1 hz2 hy2 hpp HY p1 p2
  go_wp2_with fail
  have kr := kr.drew
  have kn := kn.drew
  have kd := kd.drew
  have hm1 := hm1.drew
  have hm2 := hm2.drew
  have B0 := b_drew B0
  go_region_held3 (fun w' => w'.cell? ⟨w1.heap.size, 0, none⟩ = some (.bool b1) ∧ w'.cell? ⟨w1.heap.size, 1, none⟩ = some (.slice A1 n1 c1) ∧ w'.cell? ⟨w1.heap.size + 1, 0, none⟩ = some (.bool b2) ∧ w'.cell? ⟨w1.heap.size + 1, 1, none⟩ = some (.slice A2 n2 c2)) (first | with_reducible exact ⟨kn.c0, kn.c1, kd.c0, kd.c1⟩ | with_reducible exact ⟨(kn.ret (r := w.heap.size + 1) (by omega) _ _).c0, (kn.ret (r := w.heap.size + 1) (by omega) _ _).c1, (kd.ret (r := w.heap.size + 1) (by omega) _ _).c0, (kd.ret (r := w.heap.size + 1) (by omega) _ _).c1⟩)
    (first
      | (go_at_call 55; (with_reducible refine (add_n hm1 hm1 ?_ ?_).mono ?_); omega; omega; rintro e w2 ⟨v5, rfl, z5, bb⟩; have kr := kr.below bb; have kn := kn.below bb; have kd := kd.below bb; have hm1 := hm1.below bb; have hm2 := hm2.below bb; have B0 := B0.trans (bb.mono B0.size); clear bb)
      | (go_at_call 55; (with_reducible refine (add_n z5.nm hm2 ?_ ?_).mono ?_); omega; omega; rintro e w3 ⟨v6, rfl, z6, bb⟩; have kr := kr.below bb; have kn := kn.below bb; have kd := kd.below bb; have hm1 := hm1.below bb; have hm2 := hm2.below bb; have z5 := z5.below bb; have B0 := B0.trans (bb.mono B0.size); clear bb))
  have kn_0 := kn.c0
  have kn_1 := kn.c1
  have kd_0 := kd.c0
  have kd_1 := kd.c1
  have kr_0 := kr.1
  have kr_1 := kr.2.1
  have kr_2 := kr.2.2.1
  have kr_3 := kr.2.2.2
  go_wp2_with fail
  refine (add_n hm2 hm2 (by omega) (by omega)).mono ?_
  clear kn_0 kn_1 kd_0 kd_1 kr_0 kr_1 kr_2 kr_3
  rintro e w10 ⟨v7, rfl, z7, bb⟩
  have kr := kr.below bb
  have kn := kn.below bb
  have kd := kd.below bb
  have hm1 := hm1.below bb
  have hm2 := hm2.below bb
  have z6 := z6.below bb
  have B0 := B0.trans (bb.mono B0.size)
  clear bb
  have kn_0 := kn.c0
  have kn_1 := kn.c1
  have kd_0 := kd.c0
  have kd_1 := kd.c1
  have kr_0 := kr.1
  have kr_1 := kr.2.1
  have kr_2 := kr.2.2.1
  have kr_3 := kr.2.2.2
  go_wp2_with fail
  refine (div_n z6.nm z7.nm (by omega) HPP.out).mono ?_
  clear kn_0 kn_1 kd_0 kd_1 kr_0 kr_1 kr_2 kr_3
  rintro e w11 ⟨v8, v9, rfl, z8, z9, bb⟩
  have kr := kr.below bb
  have kn := kn.below bb
  have kd := kd.below bb
  have hm1 := hm1.below bb
  have hm2 := hm2.below bb
  have z6 := z6.below bb
  have z7 := z7.below bb
  have B0 := B0.trans (bb.mono B0.size)
  clear bb
  obtain ⟨A8, n8, c8, rfl, _, _⟩ := z8.nm.form
  clear z9
  have kn_0 := kn.c0
  have kn_1 := kn.c1
  have kd_0 := kd.c0
  have kd_1 := kd.c1
  have kr_0 := kr.1
  have kr_1 := kr.2.1
  have kr_2 := kr.2.2.1
  have kr_3 := kr.2.2.2
  go_wp2_with fail
  refine (inorm_i (z8.nm.iv b1) (by omega)).mono ?_
  clear kn_0 kn_1 kd_0 kd_1 kr_0 kr_1 kr_2 kr_3
  rintro e w12 ⟨v5, rfl, z5, bb⟩
  have kr := kr.below bb
  have kn := kn.below bb
  have kd := kd.below bb
  have z8 := z8.below bb
  have B0 := B0.trans (bb.mono B0.size)
  clear bb
  rw [HY2.out] at z5
  obtain ⟨b5, A5, n5, c5, rfl, z5⟩ := z5.cells
  have kn_0 := kn.c0
  have kn_1 := kn.c1
  have kd_0 := kd.c0
  have kd_1 := kd.c1
  have kr_0 := kr.1
  have kr_1 := kr.2.1
  have kr_2 := kr.2.2.1
  have kr_3 := kr.2.2.2
  go_wp2
  refine bodyPost_ret (v := .agg #[.bool b5, .slice A5 n5 c5]) (by simp [results, Tryz.results26, go_sem, kr_0, kr_1]) rfl ⟨_, rfl, (z5.wide (by omega)).ret kr _ _, below_ret B0 (by omega) _ _⟩
end Go.Proofs.YtohlilgnognmgaaGreatDoor
