/-
  The walk of garmentlaw04.MeasureMixed: it returns true, whatever the input.
-/
import Derived.Test.YtohlilgnognmgaaGreatDoorMeaU
namespace Go.Proofs.YtohlilgnognmgaaGreatDoor
open Go.RowKit Mea
attribute [local go_sem ↓] Go.wp_at_zero Go.wp_at_succ
set_option linter.unusedVariables false

theorem w_id (n : Nat) (h : n ≤ 2000000000) : IntKind.i64.wrap (n : Int) = (n : Int) ∧ wrap64 (n : Int) = (n : Int) := by
  rw [IntKind.wrap_i64]; unfold wrap64; omega
theorem w_hun (n : Nat) (h : n ≤ 2000000000) : IntKind.i64.wrap (100 * (n : Int)) = ((100 * n : Nat) : Int) ∧ wrap64 (100 * (n : Int)) = ((100 * n : Nat) : Int) := by
  rw [IntKind.wrap_i64]; unfold wrap64; omega
theorem w_one (n z : Nat) (h : n ≤ 2000000000) (hz : (1 : Int) + (n : Int) = (z : Int)) : IntKind.i64.wrap ((1 : Int) + (n : Int)) = (z : Int) ∧ wrap64 ((1 : Int) + (n : Int)) = (z : Int) := by
  rw [IntKind.wrap_i64]; unfold wrap64; omega
set_option maxRecDepth 20000 in
set_option maxHeartbeats 2000000 in
theorem mtext (n : Nat) (hn : n ≤ 1000000000) (w : World) : Calls Tryz.prog 19 #[.int .i64 (n : Int)] w (StrEnd (ofL (digN n)) w) := by
  have e1 : IntKind.u64.wrap (n : Int) = (n : Int) := by rw [IntKind.wrap_u64]; omega
  have B0 := Below.refl w.heap.size w
  go_enter Tryz.func19, Tryz.ntmps19
  go_wp2_with fail
  refine (rof_n n (by omega)).mono ?_
  rintro e w1 ⟨v1, rfl, z1, bb⟩
  have B0 := B0.trans (bb.mono B0.size)
  clear bb
  go_wp2_with fail
  refine (rtext_n z1.nm (by omega) (ofL (digN n)) rfl).mono ?_
  rintro e w2 ⟨rfl, bb⟩
  have B0 := B0.trans (bb.mono B0.size)
  clear bb
  go_wp2
  go_ret
  exact ⟨rfl, B0⟩
set_option maxRecDepth 20000 in
set_option maxHeartbeats 8000000 in
theorem measureMixed_all  (a b c : Nat) (w : World) (x y z k : Nat) (hx : (a : Int) % 10000000 = (x : Int)) (hy : (b : Int) % 10000000 = (y : Int)) (hk : (c : Int) % 999 = (k : Int)) (hz : (1 : Int) + (k : Int) = (z : Int)) (lx : x < 10000000) (ly : y < 10000000) (lk : k < 999) (U V Z : ByteArray) (hU : U.size ≤ 1000) (hV : V.size ≤ 1000) (hZ : Z.size ≤ 1000) (h1 : ∀ w, Calls Tryz.prog 19 #[.int .i64 (x : Int)] w (StrEnd U w)) (h2 : ∀ w, Calls Tryz.prog 19 #[.int .i64 (y : Int)] w (StrEnd V w)) (h3 : ∀ w, Calls Tryz.prog 19 #[.int .i64 (z : Int)] w (StrEnd Z w)) (q1 q2 q3 : Rat) (h4 : ∀ w, Calls Tryz.prog 14 #[.string (U ++ ⟨#[109, 109]⟩)] w (MEnd q1 w)) (h5 : ∀ w, Calls Tryz.prog 14 #[.string (V ++ ⟨#[47]⟩ ++ Z ++ ⟨#[109, 109]⟩)] w (MEnd q2 w)) (h6 : ∀ w, Calls Tryz.prog 14 #[.string (U ++ ⟨#[32]⟩ ++ V ++ ⟨#[47]⟩ ++ Z ++ ⟨#[109, 109]⟩)] w (MEnd q3 w)) (hc1 : RatN.cmpQ q1 ((((100 * x : Nat) : Int) : Rat) / ((1 : Int) : Rat)) = 0) (hc2 : RatN.cmpQ q2 ((((100 * y : Nat) : Int) : Rat) / ((z : Int) : Rat)) = 0) (hc3 : RatN.cmpQ q3 (q1 + q2) = 0) (ht : Tab w) :
    Calls Tryz.prog 7 #[.int .u32 (a : Int), .int .u32 (b : Int), .int .u16 (c : Int)] w (BoolEnd true w) := by
  have HT := Lib.hid ht
  clear ht
  have HC1 := Lib.hid hc1
  have HC2 := Lib.hid hc2
  have HC3 := Lib.hid hc3
  clear hc1 hc2 hc3
  have lz : (z : Int) ≠ 0 := by clear hx hy hk; omega
  have lz' : z ≤ 999 := by clear hx hy hk; omega
  have r1 : (0 : Int) ≤ ((100 * x : Nat) : Int) ∧ ((100 * x : Nat) : Int) < 9223372036854775808 := by clear hx hy hk; omega
  have r2 : (0 : Int) ≤ ((100 * y : Nat) : Int) ∧ ((100 * y : Nat) : Int) < 9223372036854775808 := by clear hx hy hk; omega
  have r3 : -9223372036854775808 ≤ (z : Int) ∧ (z : Int) < 9223372036854775808 := by clear hx hy hk; omega
  have bx : x ≤ 2000000000 := by clear hx hy hk; omega
  have by' : y ≤ 2000000000 := by clear hx hy hk; omega
  have bk : k ≤ 2000000000 := by clear hx hy hk; omega
  have H1 := Lib.hid h1
  have H2 := Lib.hid h2
  have H3 := Lib.hid h3
  have H4 := Lib.hid h4
  have H5 := Lib.hid h5
  have H6 := Lib.hid h6
  have LZ := Lib.hid lz
  have LZ' := Lib.hid lz'
  have LX := Lib.hid lx
  have LY := Lib.hid ly
  have R1 := Lib.hid r1
  have R2 := Lib.hid r2
  have R3 := Lib.hid r3
  have HX := Lib.hid hx
  have HY := Lib.hid hy
  have HK := Lib.hid hk
  clear h1 h2 h3 h4 h5 h6 lz lz' lx ly r1 r2 r3 hx hy hk
  have EX := Lib.hid (w_id x bx)
  have EY := Lib.hid (w_id y by')
  have EK := Lib.hid (w_id k bk)
  have EZ := Lib.hid (w_one k z bk hz)
  have E1 := Lib.hid (w_hun x bx)
  have E2 := Lib.hid (w_hun y by')
  clear bx by' bk hz lk
  have B0 := Below.refl w.heap.size w
  go_enter Tryz.func7, Tryz.ntmps7
  have hx := HX.out
  have hy := HY.out
  have hk := HK.out
  have ex := EX.out.1
  have ey := EY.out.1
  have ek := EK.out.1
  have ez := EZ.out.1
  go_wp2_with fail
  refine (H1.out _).mono ?_
  rintro e w1 ⟨rfl, bb⟩
  have B0 := B0.trans (bb.mono B0.size)
  clear bb
  clear hx hy hk ex ey ek ez
  go_wp2_with fail
  refine (H4.out _).mono ?_
  rintro e w2 ⟨b1, A1, n1, c1, B1, m1, d1, rfl, z1, bb⟩
  have B0 := B0.trans (bb.mono B0.size)
  clear bb
  have z1 := z1.below (below_alloc w2 (.cells #[.bool b1, .slice A1 n1 c1, .slice B1 m1 d1] 27))
  have k1 := Bq.new w2 (w2.heap.size) (by simp) (.bool b1) (.slice A1 n1 c1) (.slice B1 m1 d1)
  have B0 := B0.trans ((below_alloc w2 (.cells #[.bool b1, .slice A1 n1 c1, .slice B1 m1 d1] 27)).mono B0.size)
  have k1_0 := k1.c0
  have k1_1 := k1.c1
  have k1_2 := k1.c2
  go_wp2_with fail
  refine (H2.out _).mono ?_
  clear k1_0 k1_1 k1_2
  rintro e w3 ⟨rfl, bb⟩
  have z1 := z1.below bb
  have k1 := k1.below bb
  have B0 := B0.trans (bb.mono B0.size)
  clear bb
  have k1_0 := k1.c0
  have k1_1 := k1.c1
  have k1_2 := k1.c2
  go_wp2_with fail
  refine (H3.out _).mono ?_
  clear k1_0 k1_1 k1_2
  rintro e w4 ⟨rfl, bb⟩
  have z1 := z1.below bb
  have k1 := k1.below bb
  have B0 := B0.trans (bb.mono B0.size)
  clear bb
  have k1_0 := k1.c0
  have k1_1 := k1.c1
  have k1_2 := k1.c2
  go_wp2_with fail
  refine (H5.out _).mono ?_
  clear k1_0 k1_1 k1_2
  rintro e w5 ⟨b2, A2, n2, c2, B2, m2, d2, rfl, z2, bb⟩
  have z1 := z1.below bb
  have k1 := k1.below bb
  have B0 := B0.trans (bb.mono B0.size)
  clear bb
  have z1 := z1.below (below_alloc w5 (.cells #[.bool b2, .slice A2 n2 c2, .slice B2 m2 d2] 27))
  have k1 := k1.below (below_alloc w5 (.cells #[.bool b2, .slice A2 n2 c2, .slice B2 m2 d2] 27))
  have z2 := z2.below (below_alloc w5 (.cells #[.bool b2, .slice A2 n2 c2, .slice B2 m2 d2] 27))
  have k2 := Bq.new w5 (w5.heap.size) (by simp) (.bool b2) (.slice A2 n2 c2) (.slice B2 m2 d2)
  have B0 := B0.trans ((below_alloc w5 (.cells #[.bool b2, .slice A2 n2 c2, .slice B2 m2 d2] 27)).mono B0.size)
  have k1_0 := k1.c0
  have k1_1 := k1.c1
  have k1_2 := k1.c2
  have k2_0 := k2.c0
  have k2_1 := k2.c1
  have k2_2 := k2.c2
  go_wp2_with fail
  refine (H1.out _).mono ?_
  clear k1_0 k1_1 k1_2 k2_0 k2_1 k2_2
  rintro e w6 ⟨rfl, bb⟩
  have z1 := z1.below bb
  have k1 := k1.below bb
  have z2 := z2.below bb
  have k2 := k2.below bb
  have B0 := B0.trans (bb.mono B0.size)
  clear bb
  have k1_0 := k1.c0
  have k1_1 := k1.c1
  have k1_2 := k1.c2
  have k2_0 := k2.c0
  have k2_1 := k2.c1
  have k2_2 := k2.c2
  go_wp2_with fail
  refine (H2.out _).mono ?_
  clear k1_0 k1_1 k1_2 k2_0 k2_1 k2_2
  rintro e w7 ⟨rfl, bb⟩
  have z1 := z1.below bb
  have k1 := k1.below bb
  have z2 := z2.below bb
  have k2 := k2.below bb
  have B0 := B0.trans (bb.mono B0.size)
  clear bb
  have k1_0 := k1.c0
  have k1_1 := k1.c1
  have k1_2 := k1.c2
  have k2_0 := k2.c0
  have k2_1 := k2.c1
  have k2_2 := k2.c2
  go_wp2_with fail
  refine (H3.out _).mono ?_
  clear k1_0 k1_1 k1_2 k2_0 k2_1 k2_2
  rintro e w8 ⟨rfl, bb⟩
  have z1 := z1.below bb
  have k1 := k1.below bb
  have z2 := z2.below bb
  have k2 := k2.below bb
  have B0 := B0.trans (bb.mono B0.size)
  clear bb
  have k1_0 := k1.c0
  have k1_1 := k1.c1
  have k1_2 := k1.c2
  have k2_0 := k2.c0
  have k2_1 := k2.c1
  have k2_2 := k2.c2
  go_wp2_with fail
  refine (H6.out _).mono ?_
  clear k1_0 k1_1 k1_2 k2_0 k2_1 k2_2
  rintro e w9 ⟨b3, A3, n3, c3, B3, m3, d3, rfl, z3, bb⟩
  have z1 := z1.below bb
  have k1 := k1.below bb
  have z2 := z2.below bb
  have k2 := k2.below bb
  have B0 := B0.trans (bb.mono B0.size)
  clear bb
  have z1 := z1.below (below_alloc w9 (.cells #[.bool b3, .slice A3 n3 c3, .slice B3 m3 d3] 27))
  have k1 := k1.below (below_alloc w9 (.cells #[.bool b3, .slice A3 n3 c3, .slice B3 m3 d3] 27))
  have z2 := z2.below (below_alloc w9 (.cells #[.bool b3, .slice A3 n3 c3, .slice B3 m3 d3] 27))
  have k2 := k2.below (below_alloc w9 (.cells #[.bool b3, .slice A3 n3 c3, .slice B3 m3 d3] 27))
  have z3 := z3.below (below_alloc w9 (.cells #[.bool b3, .slice A3 n3 c3, .slice B3 m3 d3] 27))
  have k3 := Bq.new w9 (w9.heap.size) (by simp) (.bool b3) (.slice A3 n3 c3) (.slice B3 m3 d3)
  have B0 := B0.trans ((below_alloc w9 (.cells #[.bool b3, .slice A3 n3 c3, .slice B3 m3 d3] 27)).mono B0.size)
  have e1 := E1.out.1
  have k1_0 := k1.c0
  have k1_1 := k1.c1
  have k1_2 := k1.c2
  have k2_0 := k2.c0
  have k2_1 := k2.c1
  have k2_2 := k2.c2
  have k3_0 := k3.c0
  have k3_1 := k3.c1
  have k3_2 := k3.c2
  go_wp2_with fail
  refine (qof_p ((100 * x : Nat) : Int) 1 (by have := R1.out.1; exact Int.le_trans (by decide) this) R1.out.2 (by decide) (by decide) _ (by decide) _ rfl).mono ?_
  clear k1_0 k1_1 k1_2 k2_0 k2_1 k2_2 k3_0 k3_1 k3_2
  rintro e w10 ⟨b4, A4, n4, c4, B4, m4, d4, rfl, z4, bb⟩
  have z1 := z1.below bb
  have k1 := k1.below bb
  have z2 := z2.below bb
  have k2 := k2.below bb
  have z3 := z3.below bb
  have k3 := k3.below bb
  have B0 := B0.trans (bb.mono B0.size)
  clear bb
  clear e1
  have z1 := z1.below (below_alloc w10 (.cells #[.bool b4, .slice A4 n4 c4, .slice B4 m4 d4] 27))
  have k1 := k1.below (below_alloc w10 (.cells #[.bool b4, .slice A4 n4 c4, .slice B4 m4 d4] 27))
  have z2 := z2.below (below_alloc w10 (.cells #[.bool b4, .slice A4 n4 c4, .slice B4 m4 d4] 27))
  have k2 := k2.below (below_alloc w10 (.cells #[.bool b4, .slice A4 n4 c4, .slice B4 m4 d4] 27))
  have z3 := z3.below (below_alloc w10 (.cells #[.bool b4, .slice A4 n4 c4, .slice B4 m4 d4] 27))
  have k3 := k3.below (below_alloc w10 (.cells #[.bool b4, .slice A4 n4 c4, .slice B4 m4 d4] 27))
  have z4 := z4.below (below_alloc w10 (.cells #[.bool b4, .slice A4 n4 c4, .slice B4 m4 d4] 27))
  have k4 := Bq.new w10 (w10.heap.size) (by simp) (.bool b4) (.slice A4 n4 c4) (.slice B4 m4 d4)
  have B0 := B0.trans ((below_alloc w10 (.cells #[.bool b4, .slice A4 n4 c4, .slice B4 m4 d4] 27)).mono B0.size)
  have e2 := E2.out.1
  have k1_0 := k1.c0
  have k1_1 := k1.c1
  have k1_2 := k1.c2
  have k2_0 := k2.c0
  have k2_1 := k2.c1
  have k2_2 := k2.c2
  have k3_0 := k3.c0
  have k3_1 := k3.c1
  have k3_2 := k3.c2
  have k4_0 := k4.c0
  have k4_1 := k4.c1
  have k4_2 := k4.c2
  go_wp2_with fail
  refine (qof_p ((100 * y : Nat) : Int) (z : Int) (by have := R2.out.1; exact Int.le_trans (by decide) this) R2.out.2 R3.out.1 R3.out.2 _ LZ.out _ rfl).mono ?_
  clear k1_0 k1_1 k1_2 k2_0 k2_1 k2_2 k3_0 k3_1 k3_2 k4_0 k4_1 k4_2
  rintro e w11 ⟨b5, A5, n5, c5, B5, m5, d5, rfl, z5, bb⟩
  have z1 := z1.below bb
  have k1 := k1.below bb
  have z2 := z2.below bb
  have k2 := k2.below bb
  have z3 := z3.below bb
  have k3 := k3.below bb
  have z4 := z4.below bb
  have k4 := k4.below bb
  have B0 := B0.trans (bb.mono B0.size)
  clear bb
  clear e2
  have z1 := z1.below (below_alloc w11 (.cells #[.bool b5, .slice A5 n5 c5, .slice B5 m5 d5] 27))
  have k1 := k1.below (below_alloc w11 (.cells #[.bool b5, .slice A5 n5 c5, .slice B5 m5 d5] 27))
  have z2 := z2.below (below_alloc w11 (.cells #[.bool b5, .slice A5 n5 c5, .slice B5 m5 d5] 27))
  have k2 := k2.below (below_alloc w11 (.cells #[.bool b5, .slice A5 n5 c5, .slice B5 m5 d5] 27))
  have z3 := z3.below (below_alloc w11 (.cells #[.bool b5, .slice A5 n5 c5, .slice B5 m5 d5] 27))
  have k3 := k3.below (below_alloc w11 (.cells #[.bool b5, .slice A5 n5 c5, .slice B5 m5 d5] 27))
  have z4 := z4.below (below_alloc w11 (.cells #[.bool b5, .slice A5 n5 c5, .slice B5 m5 d5] 27))
  have k4 := k4.below (below_alloc w11 (.cells #[.bool b5, .slice A5 n5 c5, .slice B5 m5 d5] 27))
  have z5 := z5.below (below_alloc w11 (.cells #[.bool b5, .slice A5 n5 c5, .slice B5 m5 d5] 27))
  have k5 := Bq.new w11 (w11.heap.size) (by simp) (.bool b5) (.slice A5 n5 c5) (.slice B5 m5 d5)
  have B0 := B0.trans ((below_alloc w11 (.cells #[.bool b5, .slice A5 n5 c5, .slice B5 m5 d5] 27)).mono B0.size)
  go_wp2_with fail
  have z1 := z1.drew
  have k1 := k1.drew
  have z2 := z2.drew
  have k2 := k2.drew
  have z3 := z3.drew
  have k3 := k3.drew
  have z4 := z4.drew
  have k4 := k4.drew
  have z5 := z5.drew
  have k5 := k5.drew
  have B0 := b_drew B0
  go_region_held3 (fun w' => w'.cell? ⟨w2.heap.size, 0, none⟩ = some (.bool b1) ∧ w'.cell? ⟨w2.heap.size, 1, none⟩ = some (.slice A1 n1 c1) ∧ w'.cell? ⟨w2.heap.size, 2, none⟩ = some (.slice B1 m1 d1) ∧ w'.cell? ⟨w5.heap.size, 0, none⟩ = some (.bool b2) ∧ w'.cell? ⟨w5.heap.size, 1, none⟩ = some (.slice A2 n2 c2) ∧ w'.cell? ⟨w5.heap.size, 2, none⟩ = some (.slice B2 m2 d2) ∧ w'.cell? ⟨w9.heap.size, 0, none⟩ = some (.bool b3) ∧ w'.cell? ⟨w9.heap.size, 1, none⟩ = some (.slice A3 n3 c3) ∧ w'.cell? ⟨w9.heap.size, 2, none⟩ = some (.slice B3 m3 d3) ∧ w'.cell? ⟨w10.heap.size, 0, none⟩ = some (.bool b4) ∧ w'.cell? ⟨w10.heap.size, 1, none⟩ = some (.slice A4 n4 c4) ∧ w'.cell? ⟨w10.heap.size, 2, none⟩ = some (.slice B4 m4 d4) ∧ w'.cell? ⟨w11.heap.size, 0, none⟩ = some (.bool b5) ∧ w'.cell? ⟨w11.heap.size, 1, none⟩ = some (.slice A5 n5 c5) ∧ w'.cell? ⟨w11.heap.size, 2, none⟩ = some (.slice B5 m5 d5)) (first | with_reducible exact ⟨k1.c0, k1.c1, k1.c2, k2.c0, k2.c1, k2.c2, k3.c0, k3.c1, k3.c2, k4.c0, k4.c1, k4.c2, k5.c0, k5.c1, k5.c2⟩)
    (first
      | (go_at_call 15; (with_reducible refine (qcmp_q z1.qv z4.qv ?_ ?_ ?_ ?_ 0 HC1.out).mono ?_); omega; omega; omega; omega; rintro e w31 ⟨rfl, bb⟩; have z1 := z1.below bb; have k1 := k1.below bb; have z2 := z2.below bb; have k2 := k2.below bb; have z3 := z3.below bb; have k3 := k3.below bb; have z4 := z4.below bb; have k4 := k4.below bb; have z5 := z5.below bb; have k5 := k5.below bb; have B0 := B0.trans (bb.mono B0.size); clear bb)
      | (go_at_call 15; (with_reducible refine (qcmp_q z2.qv z5.qv ?_ ?_ ?_ ?_ 0 HC2.out).mono ?_); omega; omega; omega; omega; rintro e w32 ⟨rfl, bb⟩; have z1 := z1.below bb; have k1 := k1.below bb; have z2 := z2.below bb; have k2 := k2.below bb; have z3 := z3.below bb; have k3 := k3.below bb; have z4 := z4.below bb; have k4 := k4.below bb; have z5 := z5.below bb; have k5 := k5.below bb; have B0 := B0.trans (bb.mono B0.size); clear bb)
      | (go_at_call 20; (with_reducible refine (qadd_q z1.qv z2.qv ?_ ?_ ?_ ?_).mono ?_); omega; omega; omega; omega; rintro e w33 ⟨b6, A6, n6, c6, B6, m6, d6, rfl, z6, bb⟩; have z1 := z1.below bb; have k1 := k1.below bb; have z2 := z2.below bb; have k2 := k2.below bb; have z3 := z3.below bb; have k3 := k3.below bb; have z4 := z4.below bb; have k4 := k4.below bb; have z5 := z5.below bb; have k5 := k5.below bb; have B0 := B0.trans (bb.mono B0.size); clear bb)
      | (go_at_call 15; (with_reducible refine (qcmp_q z3.qv z6.qv ?_ ?_ ?_ ?_ 0 HC3.out).mono ?_); omega; omega; omega; omega; rintro e w34 ⟨rfl, bb⟩; have z1 := z1.below bb; have k1 := k1.below bb; have z2 := z2.below bb; have k2 := k2.below bb; have z3 := z3.below bb; have k3 := k3.below bb; have z4 := z4.below bb; have k4 := k4.below bb; have z5 := z5.below bb; have k5 := k5.below bb; have z6 := z6.below bb; have B0 := B0.trans (bb.mono B0.size); clear bb)
      | (go_at_call 10; (with_reducible refine (alive_walk _ (HT.out.below B0)).mono ?_); rintro e w35 ⟨rfl, bb⟩; have z1 := z1.below bb; have k1 := k1.below bb; have z2 := z2.below bb; have k2 := k2.below bb; have z3 := z3.below bb; have k3 := k3.below bb; have z4 := z4.below bb; have k4 := k4.below bb; have z5 := z5.below bb; have k5 := k5.below bb; have B0 := B0.trans (bb.mono B0.size); clear bb))
  go_wp2
  go_ret
  exact ⟨rfl, B0⟩
theorem mx_body (t : List UInt8) (N D : Nat) (ht : ∀ c ∈ t, isLet c = false) (hh : t.head? ≠ some 45) (hv : pVal t = (N, D, true)) : pMea (t ++ [109, 109]) = some (mkRat (sgn false (N * 100)) D) := by
  rw [pMea_pos _ (head_app t _ (by decide) hh), pBody_app t _ 100 ht let_mm unit_mm, hv]
  rfl
theorem mx_let (n : Nat) : ∀ c ∈ digN n, isLet c = false := fun c hc => by
  have := dgt_toNat (Txt.dec_all n c hc)
  simp only [isLet, Bool.and_eq_false_iff, decide_eq_false_iff_not]
  left; omega
theorem mx_head (n : Nat) (l : List UInt8) : (digN n ++ l).head? ≠ some 45 := by
  have h1 := Txt.dec_ne n
  rcases hm : digN n with _ | ⟨a, b⟩
  · exact absurd hm h1
  · have := Txt.dec_all n a (by rw [show Lib.decDigits n = _ from hm]; simp)
    simp only [List.cons_append, List.head?_cons, ne_eq, Option.some.injEq]
    intro e; subst e; cases this
theorem mx_len (n : Nat) (h : n ≤ 9999999) : (ofL (digN n)).size ≤ 7 := by rw [ofL_size]; exact dec_len7 n h
theorem mx_len3 (n : Nat) (h : n ≤ 999) : (ofL (digN n)).size ≤ 3 := by rw [ofL_size]; exact Txt.dec_length_le n 3 (by omega) (by omega)
theorem mx_q (N D : Nat) (hD : D ≠ 0) : mkRat (sgn false (N * 100)) D = (((100 * N : Nat) : Int) : Rat) / ((D : Int) : Rat) := by
  rw [sgn_false, Rat.mkRat_eq_div, Nat.mul_comm]
  rfl
theorem mx_sum (x y z : Nat) (hz : z ≠ 0) : mkRat (sgn false ((x * z + y) * 100)) z = mkRat (sgn false (x * 100)) 1 + mkRat (sgn false (y * 100)) z := by
  have h0 : (z : Rat) ≠ 0 := by exact_mod_cast hz
  have e := Rat.mul_inv_cancel _ h0
  have e1 : ((1 : Nat) : Rat) = 1 := rfl
  rw [sgn_false, sgn_false, sgn_false, Rat.mkRat_eq_div, Rat.mkRat_eq_div, Rat.mkRat_eq_div, Rat.div_def, Rat.div_def, Rat.div_def, e1]
  push_cast
  generalize (z : Rat)⁻¹ = u at *
  grind
theorem measureMixed_walk (w : World) (a : Nat) (ha : a ≤ 4294967295) (b : Nat) (hb : b ≤ 4294967295) (c : Nat) (hc : c ≤ 65535) (ht : Tab w) : Calls Tryz.prog 7 #[.int .u32 (a : Int), .int .u32 (b : Int), .int .u16 (c : Int)] w (BoolEnd true w) := by
  have lx : a % 10000000 < 10000000 := Nat.mod_lt _ (by omega)
  have ly : b % 10000000 < 10000000 := Nat.mod_lt _ (by omega)
  have lk : c % 999 < 999 := Nat.mod_lt _ (by omega)
  have hx : (a : Int) % 10000000 = ((a % 10000000 : Nat) : Int) := by omega
  have hy : (b : Int) % 10000000 = ((b % 10000000 : Nat) : Int) := by omega
  have hk : (c : Int) % 999 = ((c % 999 : Nat) : Int) := by omega
  generalize a % 10000000 = x at *
  generalize b % 10000000 = y at *
  generalize c % 999 = k at *
  have p1 := mx_body (digN x) x 1 (mx_let x) (by have := mx_head x []; rwa [List.append_nil] at this) (pVal_whole x (by omega))
  have p2 := mx_body (digN y ++ 47 :: digN (1 + k)) y (1 + k) (by
    intro c hc
    simp only [List.mem_append, List.mem_cons] at hc
    rcases hc with hc | rfl | hc
    · exact mx_let y c hc
    · rfl
    · exact mx_let _ c hc) (mx_head y _) (pVal_frac y (1 + k) (by omega) (by omega) (by omega))
  have p3 := mx_body (digN x ++ 32 :: digN y ++ 47 :: digN (1 + k)) (x * (1 + k) + y) (1 + k) (by
    intro c hc
    simp only [List.mem_append, List.mem_cons] at hc
    rcases hc with (hc | rfl | hc) | rfl | hc
    · exact mx_let x c hc
    · rfl
    · exact mx_let y c hc
    · rfl
    · exact mx_let _ c hc) (by rw [List.append_assoc]; exact mx_head x _) (pVal_mixed x y (1 + k) (by omega) (by omega) (by omega) (by omega))
  have sx := mx_len x (by omega)
  have sy := mx_len y (by omega)
  have sz := mx_len3 (1 + k) (by omega)
  refine measureMixed_all a b c w x y (1 + k) k hx hy hk (by omega) lx ly lk (ofL (digN x)) (ofL (digN y)) (ofL (digN (1 + k))) (by omega) (by omega) (by omega) (mtext x (by omega)) (mtext y (by omega)) (mtext (1 + k) (by omega)) _ _ _
    (fun w => mparse_yes _ w (by simp only [ByteArray.size_append]; show _ + 2 ≤ 24; omega) _ (by simpa only [cat_list, ofL_data] using p1))
    (fun w => mparse_yes _ w (by simp only [ByteArray.size_append]; show _ + 1 + _ + 2 ≤ 24; omega) _ (by simpa [cat_list, ofL_data] using p2))
    (fun w => mparse_yes _ w (by simp only [ByteArray.size_append]; show _ + 1 + _ + 1 + _ + 2 ≤ 24; omega) _ (by simpa [cat_list, ofL_data] using p3))
    ?_ ?_ ?_ ht
  · rw [mx_q x 1 (by omega)]; exact RatN.cmpQ_self _
  · rw [mx_q y (1 + k) (by omega)]; exact RatN.cmpQ_self _
  · rw [mx_sum x y (1 + k) (by omega)]; exact RatN.cmpQ_self _
end Go.Proofs.YtohlilgnognmgaaGreatDoor
