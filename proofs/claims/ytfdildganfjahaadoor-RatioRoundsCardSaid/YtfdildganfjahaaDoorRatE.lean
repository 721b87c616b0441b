/-
  The walk of garmentlaw03.exampleHolds.
-/
import Derived.Test.YtfdildganfjahaaDoorRatT
import Derived.Test.YtfdildganfjahaaDoorRatS
import Derived.Test.YtfdildganfjahaaDoorJRef
namespace Go.Proofs.YtfdildganfjahaaDoor
open Go.RowKit
attribute [local go_sem ↓] Go.wp_at_zero Go.wp_at_succ
set_option linter.unusedVariables false

theorem ezdec (n : Nat) (z : Int) (hz : z = -(n : Int)) (h : n < 10) (h0 : 0 < n) : zdec z = [45, UInt8.ofNat (48 + n)] := by
  have h1 : z < 0 := by omega
  have h2 : z.natAbs = n := by omega
  simp only [zdec, h1, if_true, h2, Lib.decDigits_one h]
theorem eqdec (x : Rat) (n d : Nat) (hn : x.num = -(n : Int)) (hd : x.den = d) (h1 : n < 10) (h2 : 0 < n) (h3 : d < 10) (h4 : d ≠ 1) (t : ByteArray) (ht : t.data.toList = [45, UInt8.ofNat (48 + n), 47, UInt8.ofNat (48 + d)]) : t.data.toList = RatN.qdec x := by
  rw [ht]
  simp only [RatN.qdec, hn, hd, h4, if_false, ezdec n _ rfl h1 h2, Lib.decDigits_one h3]
  rfl
theorem num_of (z : Int) (d : Nat) (h : d ≠ 0) (hg : Nat.gcd z.natAbs d = 1) (x : Rat) (hx : x = mkRat z d) : x.num = z ∧ x.den = d := by
  subst hx
  exact RatN.low_id z d h hg
theorem ex_of : ((6 : Int) : Rat) / ((-4 : Int) : Rat) = mkRat (-3) 2 := by rw [RatN.mk_div]; push_cast; grind
theorem ex_of' : ((1 : Int) : Rat) / ((3 : Int) : Rat) = mkRat 1 3 := by rw [RatN.mk_div]; push_cast; grind
theorem ex_add : mkRat (-3) 2 + mkRat 1 3 = mkRat (-7) 6 := by simp only [RatN.mk_div]; push_cast; grind
theorem ex_mul : mkRat (-3) 2 * mkRat 1 3 = mkRat (-1) 2 := by simp only [RatN.mk_div]; push_cast; grind
theorem ex_div : mkRat (-3) 2 / mkRat 1 3 = mkRat (-9) 2 := by simp only [RatN.mk_div]; push_cast; grind
theorem ex_nz : mkRat 1 3 ≠ 0 := by simp only [RatN.mk_div]; push_cast; grind
theorem ex_floor : (mkRat (-3) 2).floor = -2 := by decide
theorem ex_round : RatN.roundQ (mkRat (-3) 2) = -2 := by decide
theorem ex_p1 (w : World) : Calls Tryd.prog 27 #[.string ⟨#[45, 51, 47, 50]⟩] w (PQEnd (mkRat (-3) 2) w) :=
  qparse_ok ⟨#[45, 51, 47, 50]⟩ w ⟨#[45, 51]⟩ ⟨#[50]⟩ (fun w => cut_hit ⟨#[45, 51, 47, 50]⟩ 2 w (by decide) (by decide) (by decide)) (-3) (fun w => iparse_m ⟨#[45, 51]⟩ ⟨#[51]⟩ (by decide) (by decide) w (by decide) (by decide) (by decide)) 2 (fun w => parse_n ⟨#[50]⟩ w (by decide) (by decide)) (by decide) (by decide) (by decide) (by decide)
theorem ex_p2 (w : World) : Calls Tryd.prog 27 #[.string ⟨#[54, 47, 52]⟩] w (PQErr 2 w) :=
  qparse_xg ⟨#[54, 47, 52]⟩ w ⟨#[54]⟩ ⟨#[52]⟩ (fun w => cut_hit ⟨#[54, 47, 52]⟩ 1 w (by decide) (by decide) (by decide)) 6 (fun w => iparse_p ⟨#[54]⟩ ⟨#[54]⟩ (by decide) (by decide) w (by decide) (by decide)) 4 (fun w => parse_n ⟨#[52]⟩ w (by decide) (by decide)) (by decide) (by decide) (by decide)
set_option maxRecDepth 20000 in
set_option maxHeartbeats 8000000 in
theorem example_walk (w : World) (ht : Tab w) : Calls Tryd.prog 9 #[] w (BoolEnd true w) := by
  have HT := Lib.hid ht
  clear ht
  have B0 := Below.refl w.heap.size w
  go_enter Tryd.func9, Tryd.ntmps9
  go_wp2_with fail
  refine (qof_p 6 (-4) (by decide) (by decide) (by decide) (by decide) _ (by decide) _ ex_of).mono ?_
  rintro e w1 ⟨b1, A1, n1, c1, B1, m1, d1, rfl, z1, bb⟩
  have B0 := B0.trans (bb.mono B0.size)
  clear bb
  have z1 := z1.below (below_alloc w1 (.cells #[.bool b1, .slice A1 n1 c1, .slice B1 m1 d1] 27))
  have k1 := Bq.new w1 (w1.heap.size) (by simp) (.bool b1) (.slice A1 n1 c1) (.slice B1 m1 d1)
  have B0 := B0.trans ((below_alloc w1 (.cells #[.bool b1, .slice A1 n1 c1, .slice B1 m1 d1] 27)).mono B0.size)
  have k1_0 := k1.c0
  have k1_1 := k1.c1
  have k1_2 := k1.c2
  go_wp2_with fail
  refine (qof_p 1 3 (by decide) (by decide) (by decide) (by decide) _ (by decide) _ ex_of').mono ?_
  clear k1_0 k1_1 k1_2
  rintro e w2 ⟨b2, A2, n2, c2, B2, m2, d2, rfl, z2, bb⟩
  have z1 := z1.below bb
  have k1 := k1.below bb
  have B0 := B0.trans (bb.mono B0.size)
  clear bb
  have z1 := z1.below (below_alloc w2 (.cells #[.bool b2, .slice A2 n2 c2, .slice B2 m2 d2] 27))
  have k1 := k1.below (below_alloc w2 (.cells #[.bool b2, .slice A2 n2 c2, .slice B2 m2 d2] 27))
  have z2 := z2.below (below_alloc w2 (.cells #[.bool b2, .slice A2 n2 c2, .slice B2 m2 d2] 27))
  have k2 := Bq.new w2 (w2.heap.size) (by simp) (.bool b2) (.slice A2 n2 c2) (.slice B2 m2 d2)
  have B0 := B0.trans ((below_alloc w2 (.cells #[.bool b2, .slice A2 n2 c2, .slice B2 m2 d2] 27)).mono B0.size)
  have k1_0 := k1.c0
  have k1_1 := k1.c1
  have k1_2 := k1.c2
  have k2_0 := k2.c0
  have k2_1 := k2.c1
  have k2_2 := k2.c2
  go_wp2_with fail
  refine (qof_0 7 0 (by decide) (by decide) (by decide) (by decide) _ rfl).mono ?_
  clear k1_0 k1_1 k1_2 k2_0 k2_1 k2_2
  rintro e w3 ⟨rfl, bb⟩
  have z1 := z1.below bb
  have k1 := k1.below bb
  have z2 := z2.below bb
  have k2 := k2.below bb
  have B0 := B0.trans (bb.mono B0.size)
  clear bb
  have z1 := z1.below (below_alloc w3 (.cells #[.bool false, .slice none 0 0, .slice none 0 0] 27))
  have k1 := k1.below (below_alloc w3 (.cells #[.bool false, .slice none 0 0, .slice none 0 0] 27))
  have z2 := z2.below (below_alloc w3 (.cells #[.bool false, .slice none 0 0, .slice none 0 0] 27))
  have k2 := k2.below (below_alloc w3 (.cells #[.bool false, .slice none 0 0, .slice none 0 0] 27))
  have k3 := Bq.new w3 (w3.heap.size) (by simp) (.bool false) (.slice none 0 0) (.slice none 0 0)
  have B0 := B0.trans ((below_alloc w3 (.cells #[.bool false, .slice none 0 0, .slice none 0 0] 27)).mono B0.size)
  have k1_0 := k1.c0
  have k1_1 := k1.c1
  have k1_2 := k1.c2
  have k2_0 := k2.c0
  have k2_1 := k2.c1
  have k2_2 := k2.c2
  go_wp2_with fail
  refine (qdiv_q z1.qv z2.qv (by omega) (by omega) (by omega) (by omega) ex_nz).mono ?_
  clear k1_0 k1_1 k1_2 k2_0 k2_1 k2_2
  rintro e w4 ⟨b4, A4, n4, c4, B4, m4, d4, rfl, z4, bb⟩
  have z1 := z1.below bb
  have k1 := k1.below bb
  have z2 := z2.below bb
  have k2 := k2.below bb
  have B0 := B0.trans (bb.mono B0.size)
  clear bb
  rw [ex_div] at z4
  have z1 := z1.below (below_alloc w4 (.cells #[.bool b4, .slice A4 n4 c4, .slice B4 m4 d4] 27))
  have k1 := k1.below (below_alloc w4 (.cells #[.bool b4, .slice A4 n4 c4, .slice B4 m4 d4] 27))
  have z2 := z2.below (below_alloc w4 (.cells #[.bool b4, .slice A4 n4 c4, .slice B4 m4 d4] 27))
  have k2 := k2.below (below_alloc w4 (.cells #[.bool b4, .slice A4 n4 c4, .slice B4 m4 d4] 27))
  have z4 := z4.below (below_alloc w4 (.cells #[.bool b4, .slice A4 n4 c4, .slice B4 m4 d4] 27))
  have k4 := Bq.new w4 (w4.heap.size) (by simp) (.bool b4) (.slice A4 n4 c4) (.slice B4 m4 d4)
  have B0 := B0.trans ((below_alloc w4 (.cells #[.bool b4, .slice A4 n4 c4, .slice B4 m4 d4] 27)).mono B0.size)
  have k1_0 := k1.c0
  have k1_1 := k1.c1
  have k1_2 := k1.c2
  have k2_0 := k2.c0
  have k2_1 := k2.c1
  have k2_2 := k2.c2
  have k4_0 := k4.c0
  have k4_1 := k4.c1
  have k4_2 := k4.c2
  go_wp2_with fail
  refine (ex_p1 _).mono ?_
  clear k1_0 k1_1 k1_2 k2_0 k2_1 k2_2 k4_0 k4_1 k4_2
  rintro e w5 ⟨b5, A5, n5, c5, B5, m5, d5, rfl, z5, bb⟩
  have z1 := z1.below bb
  have k1 := k1.below bb
  have z2 := z2.below bb
  have k2 := k2.below bb
  have z4 := z4.below bb
  have k4 := k4.below bb
  have B0 := B0.trans (bb.mono B0.size)
  clear bb
  have z1 := z1.below (below_alloc w5 (.cells #[.bool b5, .slice A5 n5 c5, .slice B5 m5 d5] 27))
  have k1 := k1.below (below_alloc w5 (.cells #[.bool b5, .slice A5 n5 c5, .slice B5 m5 d5] 27))
  have z2 := z2.below (below_alloc w5 (.cells #[.bool b5, .slice A5 n5 c5, .slice B5 m5 d5] 27))
  have k2 := k2.below (below_alloc w5 (.cells #[.bool b5, .slice A5 n5 c5, .slice B5 m5 d5] 27))
  have z4 := z4.below (below_alloc w5 (.cells #[.bool b5, .slice A5 n5 c5, .slice B5 m5 d5] 27))
  have k4 := k4.below (below_alloc w5 (.cells #[.bool b5, .slice A5 n5 c5, .slice B5 m5 d5] 27))
  have z5 := z5.below (below_alloc w5 (.cells #[.bool b5, .slice A5 n5 c5, .slice B5 m5 d5] 27))
  have k5 := Bq.new w5 (w5.heap.size) (by simp) (.bool b5) (.slice A5 n5 c5) (.slice B5 m5 d5)
  have B0 := B0.trans ((below_alloc w5 (.cells #[.bool b5, .slice A5 n5 c5, .slice B5 m5 d5] 27)).mono B0.size)
  have k1_0 := k1.c0
  have k1_1 := k1.c1
  have k1_2 := k1.c2
  have k2_0 := k2.c0
  have k2_1 := k2.c1
  have k2_2 := k2.c2
  have k4_0 := k4.c0
  have k4_1 := k4.c1
  have k4_2 := k4.c2
  have k5_0 := k5.c0
  have k5_1 := k5.c1
  have k5_2 := k5.c2
  go_wp2_with fail
  refine (ex_p2 _).mono ?_
  clear k1_0 k1_1 k1_2 k2_0 k2_1 k2_2 k4_0 k4_1 k4_2 k5_0 k5_1 k5_2
  rintro e w6 ⟨rfl, bb⟩
  have z1 := z1.below bb
  have k1 := k1.below bb
  have z2 := z2.below bb
  have k2 := k2.below bb
  have z4 := z4.below bb
  have k4 := k4.below bb
  have z5 := z5.below bb
  have k5 := k5.below bb
  have B0 := B0.trans (bb.mono B0.size)
  clear bb
  have z1 := z1.below (below_alloc w6 (.cells #[.bool false, .slice none 0 0, .slice none 0 0] 27))
  have k1 := k1.below (below_alloc w6 (.cells #[.bool false, .slice none 0 0, .slice none 0 0] 27))
  have z2 := z2.below (below_alloc w6 (.cells #[.bool false, .slice none 0 0, .slice none 0 0] 27))
  have k2 := k2.below (below_alloc w6 (.cells #[.bool false, .slice none 0 0, .slice none 0 0] 27))
  have z4 := z4.below (below_alloc w6 (.cells #[.bool false, .slice none 0 0, .slice none 0 0] 27))
  have k4 := k4.below (below_alloc w6 (.cells #[.bool false, .slice none 0 0, .slice none 0 0] 27))
  have z5 := z5.below (below_alloc w6 (.cells #[.bool false, .slice none 0 0, .slice none 0 0] 27))
  have k5 := k5.below (below_alloc w6 (.cells #[.bool false, .slice none 0 0, .slice none 0 0] 27))
  have k6 := Bq.new w6 (w6.heap.size) (by simp) (.bool false) (.slice none 0 0) (.slice none 0 0)
  have B0 := B0.trans ((below_alloc w6 (.cells #[.bool false, .slice none 0 0, .slice none 0 0] 27)).mono B0.size)
  have k1_0 := k1.c0
  have k1_1 := k1.c1
  have k1_2 := k1.c2
  have k2_0 := k2.c0
  have k2_1 := k2.c1
  have k2_2 := k2.c2
  have k4_0 := k4.c0
  have k4_1 := k4.c1
  have k4_2 := k4.c2
  have k5_0 := k5.c0
  have k5_1 := k5.c1
  have k5_2 := k5.c2
  go_wp2_with fail
  refine (qadd_q z1.qv z2.qv (by omega) (by omega) (by omega) (by omega)).mono ?_
  clear k1_0 k1_1 k1_2 k2_0 k2_1 k2_2 k4_0 k4_1 k4_2 k5_0 k5_1 k5_2
  rintro e w7 ⟨b7, A7, n7, c7, B7, m7, d7, rfl, z7, bb⟩
  have z1 := z1.below bb
  have k1 := k1.below bb
  have z2 := z2.below bb
  have k2 := k2.below bb
  have z4 := z4.below bb
  have k4 := k4.below bb
  have z5 := z5.below bb
  have k5 := k5.below bb
  have B0 := B0.trans (bb.mono B0.size)
  clear bb
  rw [ex_add] at z7
  have k1_0 := k1.c0
  have k1_1 := k1.c1
  have k1_2 := k1.c2
  have k2_0 := k2.c0
  have k2_1 := k2.c1
  have k2_2 := k2.c2
  have k4_0 := k4.c0
  have k4_1 := k4.c1
  have k4_2 := k4.c2
  have k5_0 := k5.c0
  have k5_1 := k5.c1
  have k5_2 := k5.c2
  go_wp2_with fail
  refine (qtext_q z7.qv (by omega) (by omega) (HT.out.below B0) ⟨#[45, 55, 47, 54]⟩ (eqdec _ 7 6 (num_of (-7) 6 (by decide) (by decide) _ rfl).1 (num_of (-7) 6 (by decide) (by decide) _ rfl).2 (by decide) (by decide) (by decide) (by decide) _ rfl)).mono ?_
  clear k1_0 k1_1 k1_2 k2_0 k2_1 k2_2 k4_0 k4_1 k4_2 k5_0 k5_1 k5_2
  rintro e w8 ⟨rfl, bb⟩
  have z1 := z1.below bb
  have k1 := k1.below bb
  have z2 := z2.below bb
  have k2 := k2.below bb
  have z4 := z4.below bb
  have k4 := k4.below bb
  have z5 := z5.below bb
  have k5 := k5.below bb
  have z7 := z7.below bb
  have B0 := B0.trans (bb.mono B0.size)
  clear bb
  have k1_0 := k1.c0
  have k1_1 := k1.c1
  have k1_2 := k1.c2
  have k2_0 := k2.c0
  have k2_1 := k2.c1
  have k2_2 := k2.c2
  have k4_0 := k4.c0
  have k4_1 := k4.c1
  have k4_2 := k4.c2
  have k5_0 := k5.c0
  have k5_1 := k5.c1
  have k5_2 := k5.c2
  go_wp2_with fail
  refine (qmul_q z1.qv z2.qv (by omega) (by omega) (by omega) (by omega)).mono ?_
  clear k1_0 k1_1 k1_2 k2_0 k2_1 k2_2 k4_0 k4_1 k4_2 k5_0 k5_1 k5_2
  rintro e w9 ⟨b8, A8, n8, c8, B8, m8, d8, rfl, z8, bb⟩
  have z1 := z1.below bb
  have k1 := k1.below bb
  have z2 := z2.below bb
  have k2 := k2.below bb
  have z4 := z4.below bb
  have k4 := k4.below bb
  have z5 := z5.below bb
  have k5 := k5.below bb
  have B0 := B0.trans (bb.mono B0.size)
  clear bb
  rw [ex_mul] at z8
  have k1_0 := k1.c0
  have k1_1 := k1.c1
  have k1_2 := k1.c2
  have k2_0 := k2.c0
  have k2_1 := k2.c1
  have k2_2 := k2.c2
  have k4_0 := k4.c0
  have k4_1 := k4.c1
  have k4_2 := k4.c2
  have k5_0 := k5.c0
  have k5_1 := k5.c1
  have k5_2 := k5.c2
  go_wp2_with fail
  refine (qtext_q z8.qv (by omega) (by omega) (HT.out.below B0) ⟨#[45, 49, 47, 50]⟩ (eqdec _ 1 2 (num_of (-1) 2 (by decide) (by decide) _ rfl).1 (num_of (-1) 2 (by decide) (by decide) _ rfl).2 (by decide) (by decide) (by decide) (by decide) _ rfl)).mono ?_
  clear k1_0 k1_1 k1_2 k2_0 k2_1 k2_2 k4_0 k4_1 k4_2 k5_0 k5_1 k5_2
  rintro e w10 ⟨rfl, bb⟩
  have z1 := z1.below bb
  have k1 := k1.below bb
  have z2 := z2.below bb
  have k2 := k2.below bb
  have z4 := z4.below bb
  have k4 := k4.below bb
  have z5 := z5.below bb
  have k5 := k5.below bb
  have z8 := z8.below bb
  have B0 := B0.trans (bb.mono B0.size)
  clear bb
  have k1_0 := k1.c0
  have k1_1 := k1.c1
  have k1_2 := k1.c2
  have k4_0 := k4.c0
  have k4_1 := k4.c1
  have k4_2 := k4.c2
  have k5_0 := k5.c0
  have k5_1 := k5.c1
  have k5_2 := k5.c2
  go_wp2_with fail
  refine (qtext_q z4.qv (by omega) (by omega) (HT.out.below B0) ⟨#[45, 57, 47, 50]⟩ (eqdec _ 9 2 (num_of (-9) 2 (by decide) (by decide) _ rfl).1 (num_of (-9) 2 (by decide) (by decide) _ rfl).2 (by decide) (by decide) (by decide) (by decide) _ rfl)).mono ?_
  clear k1_0 k1_1 k1_2 k4_0 k4_1 k4_2 k5_0 k5_1 k5_2
  rintro e w11 ⟨rfl, bb⟩
  have z1 := z1.below bb
  have k1 := k1.below bb
  have z4 := z4.below bb
  have k4 := k4.below bb
  have z5 := z5.below bb
  have k5 := k5.below bb
  have B0 := B0.trans (bb.mono B0.size)
  clear bb
  have k1_0 := k1.c0
  have k1_1 := k1.c1
  have k1_2 := k1.c2
  have k5_0 := k5.c0
  have k5_1 := k5.c1
  have k5_2 := k5.c2
  go_wp2_with fail
  refine (qcmp_q z5.qv z1.qv (by omega) (by omega) (by omega) (by omega) 0 (RatN.cmpQ_self _)).mono ?_
  clear k1_0 k1_1 k1_2 k5_0 k5_1 k5_2
  rintro e w12 ⟨rfl, bb⟩
  have z1 := z1.below bb
  have k1 := k1.below bb
  have z5 := z5.below bb
  have k5 := k5.below bb
  have B0 := B0.trans (bb.mono B0.size)
  clear bb
  have k1_0 := k1.c0
  have k1_1 := k1.c1
  have k1_2 := k1.c2
  go_wp2_with fail
  refine (qfloor_q z1.qv (by omega) (by omega)).mono ?_
  clear k1_0 k1_1 k1_2
  rintro e w13 ⟨va, rfl, za, bb⟩
  have z1 := z1.below bb
  have k1 := k1.below bb
  have B0 := B0.trans (bb.mono B0.size)
  clear bb
  have k1_0 := k1.c0
  have k1_1 := k1.c1
  have k1_2 := k1.c2
  go_wp2_with fail
  refine (riof_i (-2) (by decide) (by decide) _).mono ?_
  clear k1_0 k1_1 k1_2
  rintro e w14 ⟨ua, rfl, ya, bb⟩
  have z1 := z1.below bb
  have k1 := k1.below bb
  have za := za.below bb
  have B0 := B0.trans (bb.mono B0.size)
  clear bb
  have k1_0 := k1.c0
  have k1_1 := k1.c1
  have k1_2 := k1.c2
  go_wp2_with fail
  refine (rsameint_i za ya ex_floor).mono ?_
  clear k1_0 k1_1 k1_2
  rintro e w15 ⟨rfl, bb⟩
  have z1 := z1.below bb
  have k1 := k1.below bb
  have za := za.below bb
  have ya := ya.below bb
  have B0 := B0.trans (bb.mono B0.size)
  clear bb
  have k1_0 := k1.c0
  have k1_1 := k1.c1
  have k1_2 := k1.c2
  go_wp2_with fail
  refine (qround_q z1.qv (by omega) (by omega)).mono ?_
  clear k1_0 k1_1 k1_2
  rintro e w16 ⟨vb, rfl, zb, bb⟩
  have z1 := z1.below bb
  have k1 := k1.below bb
  have B0 := B0.trans (bb.mono B0.size)
  clear bb
  have k1_0 := k1.c0
  have k1_1 := k1.c1
  have k1_2 := k1.c2
  go_wp2_with fail
  refine (riof_i (-2) (by decide) (by decide) _).mono ?_
  clear k1_0 k1_1 k1_2
  rintro e w17 ⟨ub, rfl, yb, bb⟩
  have z1 := z1.below bb
  have k1 := k1.below bb
  have zb := zb.below bb
  have B0 := B0.trans (bb.mono B0.size)
  clear bb
  have k1_0 := k1.c0
  have k1_1 := k1.c1
  have k1_2 := k1.c2
  go_wp2_with fail
  refine (rsameint_i zb yb ex_round).mono ?_
  clear k1_0 k1_1 k1_2
  rintro e w18 ⟨rfl, bb⟩
  have z1 := z1.below bb
  have k1 := k1.below bb
  have zb := zb.below bb
  have yb := yb.below bb
  have B0 := B0.trans (bb.mono B0.size)
  clear bb
  go_wp2
  go_ret
  exact ⟨rfl, B0⟩
end Go.Proofs.YtfdildganfjahaaDoor
