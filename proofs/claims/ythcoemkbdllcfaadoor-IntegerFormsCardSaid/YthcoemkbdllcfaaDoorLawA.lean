/-
  The walk of garmentlaw02.awake: the examples of the chapter.
-/
import Derived.Test.YthcoemkbdllcfaaDoorLawC
import Derived.Test.YthcoemkbdllcfaaDoorIntP
import Derived.Test.YthcoemkbdllcfaaDoorIntD
namespace Go.Proofs.YthcoemkbdllcfaaDoor
open Go.RowKit
attribute [local go_sem ↓] Go.wp_at_zero Go.wp_at_succ
set_option linter.unusedVariables false

theorem itext_lit {w : World} {v : Value} {z : Int} {k : Nat} (h : Iv w v z k) (hk : k ≤ 900) (ht : Tab w) (l : Array UInt8) (h' : zdec z = l.toList) : Calls Tryd.prog 32 #[v] w (StrEnd ⟨l⟩ w) := itext_i h hk ht ⟨l⟩ h'.symm
set_option maxRecDepth 20000 in
set_option maxHeartbeats 8000000 in
theorem awake_walk (w : World) (ht : Tab w) : Calls Tryd.prog 13 #[] w (BoolEnd true w) := by
  have HT := Lib.hid ht
  clear ht
  have B0 := Below.refl w.heap.size w
  go_enter Tryd.func13, Tryd.ntmps13
  go_wp2_with fail
  refine (iof_i (-7) (by decide) (by decide) _).mono ?_
  rintro e w1 ⟨v1, rfl, z1, bb⟩
  have B0 := B0.trans (bb.mono B0.size)
  clear bb
  go_wp2_with fail
  refine (iof_i (2) (by decide) (by decide) _).mono ?_
  rintro e w2 ⟨v2, rfl, z2, bb⟩
  have z1 := z1.below bb
  have B0 := B0.trans (bb.mono B0.size)
  clear bb
  go_wp2_with fail
  refine (idiv_i z1.iv z2.iv (by omega) (by omega) (by decide)).mono ?_
  rintro e w3 ⟨v3, v4, rfl, zq, zr, bb⟩
  have z1 := z1.below bb
  have z2 := z2.below bb
  have B0 := B0.trans (bb.mono B0.size)
  clear bb
  obtain ⟨bzq, Azq, nzq, czq, rfl, zq⟩ := zq.cells
  obtain ⟨bzr, Azr, nzr, czr, rfl, zr⟩ := zr.cells
  have zq := zq.below (below_alloc w3 (.cells #[.bool bzq, .slice Azq nzq czq] 25))
  have zr := zr.below (below_alloc w3 (.cells #[.bool bzq, .slice Azq nzq czq] 25))
  have kq := Bx.new w3 (w3.heap.size) (by simp) (.bool bzq) (.slice Azq nzq czq)
  have B0 := B0.trans ((below_alloc w3 (.cells #[.bool bzq, .slice Azq nzq czq] 25)).mono B0.size)
  have zq := zq.below (below_alloc (w3.alloc (.cells #[.bool bzq, .slice Azq nzq czq] 25)) (.cells #[.bool bzr, .slice Azr nzr czr] 25))
  have zr := zr.below (below_alloc (w3.alloc (.cells #[.bool bzq, .slice Azq nzq czq] 25)) (.cells #[.bool bzr, .slice Azr nzr czr] 25))
  have kq := kq.below (below_alloc (w3.alloc (.cells #[.bool bzq, .slice Azq nzq czq] 25)) (.cells #[.bool bzr, .slice Azr nzr czr] 25))
  have kr := Bx.new (w3.alloc (.cells #[.bool bzq, .slice Azq nzq czq] 25)) (w3.heap.size + 1) (by simp) (.bool bzr) (.slice Azr nzr czr)
  have B0 := B0.trans ((below_alloc (w3.alloc (.cells #[.bool bzq, .slice Azq nzq czq] 25)) (.cells #[.bool bzr, .slice Azr nzr czr] 25)).mono B0.size)
  go_wp2_with fail
  refine (iof_i (3) (by decide) (by decide) _).mono ?_
  rintro e w4 ⟨v5, rfl, z5, bb⟩
  have zq := zq.below bb
  have zr := zr.below bb
  have kq := kq.below bb
  have kr := kr.below bb
  have B0 := B0.trans (bb.mono B0.size)
  clear bb
  go_wp2_with fail
  refine (idiv_i0 (z5.iv.below (below_alloc _ _)) (Iv.lit _ true [0] _ _ 1 rfl rfl (by simp) (lim1 _ (by omega)) (by omega) 0 (by simp [sgn, Num.val])) (by omega) (by omega) rfl).mono ?_
  rintro e w5 ⟨rfl, bb⟩
  have bb := b_alloc bb
  have zq := zq.below bb
  have zr := zr.below bb
  have kq := kq.below bb
  have kr := kr.below bb
  have z5 := z5.below bb
  have B0 := B0.trans (bb.mono B0.size)
  clear bb
  have zq := zq.below (below_alloc w5 (.cells #[.bool false, .slice none 0 0] 25))
  have zr := zr.below (below_alloc w5 (.cells #[.bool false, .slice none 0 0] 25))
  have kq := kq.below (below_alloc w5 (.cells #[.bool false, .slice none 0 0] 25))
  have kr := kr.below (below_alloc w5 (.cells #[.bool false, .slice none 0 0] 25))
  have k1 := Bx.new w5 (w5.heap.size) (by simp) (.bool false) (.slice none 0 0)
  have B0 := B0.trans ((below_alloc w5 (.cells #[.bool false, .slice none 0 0] 25)).mono B0.size)
  have zq := zq.below (below_alloc (w5.alloc (.cells #[.bool false, .slice none 0 0] 25)) (.cells #[.bool false, .slice none 0 0] 25))
  have zr := zr.below (below_alloc (w5.alloc (.cells #[.bool false, .slice none 0 0] 25)) (.cells #[.bool false, .slice none 0 0] 25))
  have kq := kq.below (below_alloc (w5.alloc (.cells #[.bool false, .slice none 0 0] 25)) (.cells #[.bool false, .slice none 0 0] 25))
  have kr := kr.below (below_alloc (w5.alloc (.cells #[.bool false, .slice none 0 0] 25)) (.cells #[.bool false, .slice none 0 0] 25))
  have k1 := k1.below (below_alloc (w5.alloc (.cells #[.bool false, .slice none 0 0] 25)) (.cells #[.bool false, .slice none 0 0] 25))
  have k2 := Bx.new (w5.alloc (.cells #[.bool false, .slice none 0 0] 25)) (w5.heap.size + 1) (by simp) (.bool false) (.slice none 0 0)
  have B0 := B0.trans ((below_alloc (w5.alloc (.cells #[.bool false, .slice none 0 0] 25)) (.cells #[.bool false, .slice none 0 0] 25)).mono B0.size)
  have hd1 : (⟨#[49, 50]⟩ : ByteArray) = digs ⟨#[45, 49, 50]⟩ := by decide
  have Hd1 := Lib.hid hd1
  clear hd1
  go_wp2_with fail
  refine (iparse_m ⟨#[45, 49, 50]⟩ ⟨#[49, 50]⟩ Hd1.out (by decide) _ (by decide) (by decide) (by decide)).mono ?_
  rintro e w6 ⟨v6, rfl, zn, bb⟩
  have zq := zq.below bb
  have zr := zr.below bb
  have kq := kq.below bb
  have kr := kr.below bb
  have B0 := B0.trans (bb.mono B0.size)
  clear bb
  obtain ⟨bzn, Azn, nzn, czn, rfl, zn⟩ := zn.cells
  have zq := zq.below (below_alloc w6 (.cells #[.bool bzn, .slice Azn nzn czn] 25))
  have zr := zr.below (below_alloc w6 (.cells #[.bool bzn, .slice Azn nzn czn] 25))
  have kq := kq.below (below_alloc w6 (.cells #[.bool bzn, .slice Azn nzn czn] 25))
  have kr := kr.below (below_alloc w6 (.cells #[.bool bzn, .slice Azn nzn czn] 25))
  have zn := zn.below (below_alloc w6 (.cells #[.bool bzn, .slice Azn nzn czn] 25))
  have kn := Bx.new w6 (w6.heap.size) (by simp) (.bool bzn) (.slice Azn nzn czn)
  have B0 := B0.trans ((below_alloc w6 (.cells #[.bool bzn, .slice Azn nzn czn] 25)).mono B0.size)
  have hd2 : (⟨#[48]⟩ : ByteArray) = digs ⟨#[45, 48]⟩ := by decide
  have Hd2 := Lib.hid hd2
  clear hd2
  go_wp2_with fail
  refine (iparse_z ⟨#[45, 48]⟩ ⟨#[48]⟩ Hd2.out (by decide) _ (by decide) (by decide) (by decide)).mono ?_
  rintro e w7 ⟨rfl, bb⟩
  have zq := zq.below bb
  have zr := zr.below bb
  have kq := kq.below bb
  have kr := kr.below bb
  have zn := zn.below bb
  have kn := kn.below bb
  have B0 := B0.trans (bb.mono B0.size)
  clear bb
  have zq := zq.below (below_alloc w7 (.cells #[.bool false, .slice none 0 0] 25))
  have zr := zr.below (below_alloc w7 (.cells #[.bool false, .slice none 0 0] 25))
  have kq := kq.below (below_alloc w7 (.cells #[.bool false, .slice none 0 0] 25))
  have kr := kr.below (below_alloc w7 (.cells #[.bool false, .slice none 0 0] 25))
  have zn := zn.below (below_alloc w7 (.cells #[.bool false, .slice none 0 0] 25))
  have kn := kn.below (below_alloc w7 (.cells #[.bool false, .slice none 0 0] 25))
  have k3 := Bx.new w7 (w7.heap.size) (by simp) (.bool false) (.slice none 0 0)
  have B0 := B0.trans ((below_alloc w7 (.cells #[.bool false, .slice none 0 0] 25)).mono B0.size)
  go_wp2_with fail
  refine (ismall_yes (Iv.lit _ true [0, 2147483648, 0] _ _ 3 rfl rfl (by simp) (lim3 _ _ _ (by omega) (by omega) (by omega)) (by omega) (-9223372036854775808) (by decide)) (by omega) (by decide) (by decide)).mono ?_
  rintro e w8 ⟨rfl, bb⟩
  have bb := b_alloc bb
  have zq := zq.below bb
  have zr := zr.below bb
  have kq := kq.below bb
  have kr := kr.below bb
  have zn := zn.below bb
  have kn := kn.below bb
  have B0 := B0.trans (bb.mono B0.size)
  clear bb
  go_wp2_with fail
  refine (ismall_no (Iv.lit _ false [0, 2147483648] _ _ 2 rfl rfl (by simp) (lim2 _ _ (by omega) (by omega)) (by omega) 9223372036854775808 (by decide)) (by omega) (.inr (by decide))).mono ?_
  rintro e w9 ⟨rfl, bb⟩
  have bb := b_alloc bb
  have zq := zq.below bb
  have zr := zr.below bb
  have kq := kq.below bb
  have kr := kr.below bb
  have zn := zn.below bb
  have kn := kn.below bb
  have B0 := B0.trans (bb.mono B0.size)
  clear bb
  have kq0 := kq.1
  have kq1 := kq.2
  have kr0 := kr.1
  have kr1 := kr.2
  have kn0 := kn.1
  have kn1 := kn.2
  go_wp2_with fail
  refine (itext_lit zq.iv (by omega) (HT.out.below B0) #[45, 52] (by rw [zdec1 _ 4 (by decide) (by omega)]; decide)).mono ?_
  clear kq0 kq1 kr0 kr1 kn0 kn1
  rintro e w10 ⟨rfl, bb⟩
  have zq := zq.below bb
  have zr := zr.below bb
  have kq := kq.below bb
  have kr := kr.below bb
  have zn := zn.below bb
  have kn := kn.below bb
  have B0 := B0.trans (bb.mono B0.size)
  clear bb
  have kr0 := kr.1
  have kr1 := kr.2
  have kn0 := kn.1
  have kn1 := kn.2
  go_wp2_with fail
  refine (itext_lit zr.iv (by omega) (HT.out.below B0) #[49] (by rw [zdec1 _ 1 (by decide) (by omega)]; decide)).mono ?_
  clear kr0 kr1 kn0 kn1
  rintro e w11 ⟨rfl, bb⟩
  have zr := zr.below bb
  have kr := kr.below bb
  have zn := zn.below bb
  have kn := kn.below bb
  have B0 := B0.trans (bb.mono B0.size)
  clear bb
  have kn0 := kn.1
  have kn1 := kn.2
  go_wp2_with fail
  refine (itext_lit zn.iv (by omega) (HT.out.below B0) #[45, 49, 50] (by rw [zdec2 _ 1 2 (by decide) (by omega) (by omega) (by omega)]; decide)).mono ?_
  clear kn0 kn1
  rintro e w12 ⟨rfl, bb⟩
  have zn := zn.below bb
  have kn := kn.below bb
  have B0 := B0.trans (bb.mono B0.size)
  clear bb
  go_wp2_with fail
  refine (itext_lit (Iv.lit _ true [0, 0] _ _ 2 rfl rfl (by simp) (lim2 _ _ (by omega) (by omega)) (by omega) 0 (by decide)) (by omega) (HT.out.below (B0.trans ((below_alloc _ _).mono B0.size))) #[48] (by rw [zdec1 _ 0 (by decide) (by omega)]; decide)).mono ?_
  rintro e w13 ⟨rfl, bb⟩
  have bb := b_alloc bb
  have B0 := B0.trans (bb.mono B0.size)
  clear bb
  go_wp2_with fail
  refine (iof_i (-5) (by decide) (by decide) _).mono ?_
  rintro e w14 ⟨v8, rfl, z8, bb⟩
  have B0 := B0.trans (bb.mono B0.size)
  clear bb
  go_wp2_with fail
  refine (iof_i (3) (by decide) (by decide) _).mono ?_
  rintro e w15 ⟨v9, rfl, z9, bb⟩
  have z8 := z8.below bb
  have B0 := B0.trans (bb.mono B0.size)
  clear bb
  go_wp2_with fail
  refine (icmp_i z8.iv z9.iv (-1) (by decide)).mono ?_
  rintro e w16 ⟨rfl, bb⟩
  have z8 := z8.below bb
  have z9 := z9.below bb
  have B0 := B0.trans (bb.mono B0.size)
  clear bb
  go_wp2_with fail
  refine (iof_i (-5) (by decide) (by decide) _).mono ?_
  rintro e w17 ⟨va, rfl, za, bb⟩
  have B0 := B0.trans (bb.mono B0.size)
  clear bb
  go_wp2_with fail
  refine (iof_i (-3) (by decide) (by decide) _).mono ?_
  rintro e w18 ⟨vb, rfl, zb, bb⟩
  have za := za.below bb
  have B0 := B0.trans (bb.mono B0.size)
  clear bb
  go_wp2_with fail
  refine (imul_i za.iv zb.iv (by omega) (by omega)).mono ?_
  rintro e w19 ⟨vc, rfl, zc, bb⟩
  have za := za.below bb
  have zb := zb.below bb
  have B0 := B0.trans (bb.mono B0.size)
  clear bb
  go_wp2_with fail
  refine (itext_lit zc.iv (by omega) (HT.out.below B0) #[49, 53] (by rw [zdec2 _ 1 5 (by decide) (by omega) (by omega) (by omega)]; decide)).mono ?_
  rintro e w20 ⟨rfl, bb⟩
  have zc := zc.below bb
  have B0 := B0.trans (bb.mono B0.size)
  clear bb
  go_wp2
  go_ret
  exact ⟨rfl, B0⟩
end Go.Proofs.YthcoemkbdllcfaaDoor
