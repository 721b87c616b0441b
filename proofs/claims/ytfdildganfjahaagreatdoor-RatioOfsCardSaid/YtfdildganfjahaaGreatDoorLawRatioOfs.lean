/-
  The walk of garmentlaw03.RatioOfs: it returns true, whatever the input.
-/
import Derived.Test.YtfdildganfjahaaGreatDoorRatE
import Derived.Test.YtfdildganfjahaaGreatDoorRRat
namespace Go.Proofs.YtfdildganfjahaaGreatDoor
open Go.RowKit
attribute [local go_sem ↓] Go.wp_at_zero Go.wp_at_succ
set_option linter.unusedVariables false

set_option maxRecDepth 20000 in
set_option maxHeartbeats 8000000 in
theorem ratioOfs_zero  (a : Int) (w : World) (ha : -9223372036854775808 ≤ a) (ha' : a < 9223372036854775808) (ht : Tab w) :
    Calls Tryz.prog 4 #[.int .i64 a, .int .i64 0] w (BoolEnd true w) := by
  have HT := Lib.hid ht
  clear ht
  have HA := Lib.hid ha
  have HA1 := Lib.hid ha'
  clear ha ha'
  have B0 := Below.refl w.heap.size w
  go_enter Tryz.func4, Tryz.ntmps4
  go_wp2_with fail
  refine (qof_0 a 0 HA.out HA1.out (by decide) (by decide) _ rfl).mono ?_
  rintro e w1 ⟨rfl, bb⟩
  have B0 := B0.trans (bb.mono B0.size)
  clear bb
  have k1 := Bq.new w1 (w1.heap.size) (by simp) (.bool false) (.slice none 0 0) (.slice none 0 0)
  have B0 := B0.trans ((below_alloc w1 (.cells #[.bool false, .slice none 0 0, .slice none 0 0] 27)).mono B0.size)
  have k1_0 := k1.c0
  have k1_1 := k1.c1
  have k1_2 := k1.c2
  go_wp2_with fail
  refine (rqof_0 a _).mono ?_
  clear k1_0 k1_1 k1_2
  rintro e w2 ⟨rfl, bb⟩
  have k1 := k1.below bb
  have B0 := B0.trans (bb.mono B0.size)
  clear bb
  have k1 := k1.below (below_alloc w2 (.cells #[.bool false, .slice none 0 0, .slice none 0 0] 27))
  have k2 := Bq.new w2 (w2.heap.size) (by simp) (.bool false) (.slice none 0 0) (.slice none 0 0)
  have B0 := B0.trans ((below_alloc w2 (.cells #[.bool false, .slice none 0 0, .slice none 0 0] 27)).mono B0.size)
  have k1_0 := k1.c0
  have k1_1 := k1.c1
  have k1_2 := k1.c2
  have k2_0 := k2.c0
  have k2_1 := k2.c1
  have k2_2 := k2.c2
  go_wp2_with fail
  refine (rsame_0 _).mono ?_
  clear k1_0 k1_1 k1_2 k2_0 k2_1 k2_2
  rintro e w3 ⟨rfl, bb⟩
  have k1 := k1.below bb
  have k2 := k2.below bb
  have B0 := B0.trans (bb.mono B0.size)
  clear bb
  have k1_0 := k1.c0
  have k1_1 := k1.c1
  have k1_2 := k1.c2
  have k2_0 := k2.c0
  have k2_1 := k2.c1
  have k2_2 := k2.c2
  go_wp2_with fail
  refine (example_walk _ (HT.out.below B0)).mono ?_
  clear k1_0 k1_1 k1_2 k2_0 k2_1 k2_2
  rintro e w4 ⟨rfl, bb⟩
  have k1 := k1.below bb
  have k2 := k2.below bb
  have B0 := B0.trans (bb.mono B0.size)
  clear bb
  go_wp2
  go_ret
  exact ⟨rfl, B0⟩
set_option maxRecDepth 20000 in
set_option maxHeartbeats 8000000 in
theorem ratioOfs_pos  (a b : Int) (w : World) (ha : -9223372036854775808 ≤ a) (ha' : a < 9223372036854775808) (hb : -9223372036854775808 ≤ b) (hb' : b < 9223372036854775808) (h0 : b ≠ 0) (ht : Tab w) :
    Calls Tryz.prog 4 #[.int .i64 a, .int .i64 b] w (BoolEnd true w) := by
  have HT := Lib.hid ht
  clear ht
  have HA := Lib.hid ha
  have HA1 := Lib.hid ha'
  have HB := Lib.hid hb
  have HB1 := Lib.hid hb'
  have H0 := Lib.hid h0
  clear ha ha' hb hb' h0
  have B0 := Below.refl w.heap.size w
  go_enter Tryz.func4, Tryz.ntmps4
  go_wp2_with fail
  refine (qof_q a b HA.out HA1.out HB.out HB1.out _ H0.out).mono ?_
  rintro e w1 ⟨b1, A1, n1, c1, B1, m1, d1, rfl, z1, bb⟩
  have B0 := B0.trans (bb.mono B0.size)
  clear bb
  have z1 := z1.below (below_alloc w1 (.cells #[.bool b1, .slice A1 n1 c1, .slice B1 m1 d1] 27))
  have k1 := Bq.new w1 (w1.heap.size) (by simp) (.bool b1) (.slice A1 n1 c1) (.slice B1 m1 d1)
  have B0 := B0.trans ((below_alloc w1 (.cells #[.bool b1, .slice A1 n1 c1, .slice B1 m1 d1] 27)).mono B0.size)
  have k1_0 := k1.c0
  have k1_1 := k1.c1
  have k1_2 := k1.c2
  go_wp2_with fail
  refine (rqof_p a b HA.out HA1.out HB.out HB1.out _ H0.out).mono ?_
  clear k1_0 k1_1 k1_2
  rintro e w2 ⟨b2, A2, n2, c2, B2, m2, d2, rfl, z2, bb⟩
  have z1 := z1.below bb
  have k1 := k1.below bb
  have B0 := B0.trans (bb.mono B0.size)
  clear bb
  have z1 := z1.below (below_alloc w2 (.cells #[.bool b2, .slice A2 n2 c2, .slice B2 m2 d2] 27))
  have k1 := k1.below (below_alloc w2 (.cells #[.bool b2, .slice A2 n2 c2, .slice B2 m2 d2] 27))
  have z2 := z2.below (below_alloc w2 (.cells #[.bool b2, .slice A2 n2 c2, .slice B2 m2 d2] 27))
  have k2 := Bq.new w2 (w2.heap.size) (by simp) (.bool b2) (.slice A2 n2 c2) (.slice B2 m2 d2)
  have B0 := B0.trans ((below_alloc w2 (.cells #[.bool b2, .slice A2 n2 c2, .slice B2 m2 d2] 27)).mono B0.size)
  have k1_0 := k1.c0
  have k1_1 := k1.c1
  have k1_2 := k1.c2
  have k2_0 := k2.c0
  have k2_1 := k2.c1
  have k2_2 := k2.c2
  go_wp2_with fail
  refine (rsame_q z1 z2 rfl).mono ?_
  clear k1_0 k1_1 k1_2 k2_0 k2_1 k2_2
  rintro e w3 ⟨rfl, bb⟩
  have z1 := z1.below bb
  have k1 := k1.below bb
  have z2 := z2.below bb
  have k2 := k2.below bb
  have B0 := B0.trans (bb.mono B0.size)
  clear bb
  have k1_0 := k1.c0
  have k1_1 := k1.c1
  have k1_2 := k1.c2
  have k2_0 := k2.c0
  have k2_1 := k2.c1
  have k2_2 := k2.c2
  go_wp2_with fail
  refine (example_walk _ (HT.out.below B0)).mono ?_
  clear k1_0 k1_1 k1_2 k2_0 k2_1 k2_2
  rintro e w4 ⟨rfl, bb⟩
  have z1 := z1.below bb
  have k1 := k1.below bb
  have z2 := z2.below bb
  have k2 := k2.below bb
  have B0 := B0.trans (bb.mono B0.size)
  clear bb
  go_wp2
  go_ret
  exact ⟨rfl, B0⟩
theorem ratioOfs_walk (w : World) (a : Int) (ha : -9223372036854775808 ≤ a) (ha' : a < 9223372036854775808) (b : Int) (hb : -9223372036854775808 ≤ b) (hb' : b < 9223372036854775808) (ht : Tab w) : Calls Tryz.prog 4 #[.int .i64 a, .int .i64 b] w (BoolEnd true w) := by
  by_cases h0 : b = 0
  · subst h0; exact ratioOfs_zero a w ha ha' ht
  · exact ratioOfs_pos a b w ha ha' hb hb' h0 ht
end Go.Proofs.YtfdildganfjahaaGreatDoor
