/-
  The walk of garmentlaw03.RatioParses: it returns true, whatever the input.
-/
import Derived.Test.YtfdildganfjahaaGreatDoorRatE
import Derived.Test.YtfdildganfjahaaGreatDoorRatO
namespace Go.Proofs.YtfdildganfjahaaGreatDoor
open Go.RowKit
attribute [local go_sem ↓] Go.wp_at_zero Go.wp_at_succ
set_option linter.unusedVariables false

set_option maxRecDepth 20000 in
set_option maxHeartbeats 8000000 in
theorem ratioParses_long  (s : ByteArray) (w : World) (hs : s.size ≤ 9223372036854775807) (hl : 500 < s.size) (ht : Tab w) :
    Calls Tryz.prog 6 #[.string s] w (BoolEnd true w) := by
  have HT := Lib.hid ht
  clear ht
  have B0 := Below.refl w.heap.size w
  go_enter Tryz.func6, Tryz.ntmps6
  go_wp2_with fail
  refine (example_walk _ (HT.out.below B0)).mono ?_
  rintro e w1 ⟨rfl, bb⟩
  have B0 := B0.trans (bb.mono B0.size)
  clear bb
  go_wp2
  go_ret
  exact ⟨rfl, B0⟩
set_option maxRecDepth 20000 in
set_option maxHeartbeats 8000000 in
theorem ratioParses_err  (s : ByteArray) (w : World) (hl : s.size ≤ 500) (code : Int) (h0 : code ≠ 0) (hp : ∀ w, Calls Tryz.prog 34 #[.string s] w (PQErr code w) ∧ Calls Tryz.prog 35 #[.string s] w (PQErr code w)) (ht : Tab w) :
    Calls Tryz.prog 6 #[.string s] w (BoolEnd true w) := by
  have HT := Lib.hid ht
  clear ht
  have hb : (code != 0) = true := by simpa using h0
  have hbb : (code == code) = true := by simp
  clear h0
  have HP := Lib.hid hp
  clear hp
  have B0 := Below.refl w.heap.size w
  go_enter Tryz.func6, Tryz.ntmps6
  go_wp2_with fail
  refine ((HP.out _).1).mono ?_
  rintro e w1 ⟨rfl, bb⟩
  have B0 := B0.trans (bb.mono B0.size)
  clear bb
  have k1 := Bq.new w1 (w1.heap.size) (by simp) (.bool false) (.slice none 0 0) (.slice none 0 0)
  have B0 := B0.trans ((below_alloc w1 (.cells #[.bool false, .slice none 0 0, .slice none 0 0] 27)).mono B0.size)
  have k1_0 := k1.c0
  have k1_1 := k1.c1
  have k1_2 := k1.c2
  go_wp2_with fail
  refine ((HP.out _).2).mono ?_
  clear k1_0 k1_1 k1_2
  rintro e w2 ⟨rfl, bb⟩
  have k1 := k1.below bb
  have B0 := B0.trans (bb.mono B0.size)
  clear bb
  have k1 := k1.below (below_alloc w2 (.cells #[.bool false, .slice none 0 0, .slice none 0 0] 27))
  have k2 := Bq.new w2 (w2.heap.size) (by simp) (.bool false) (.slice none 0 0) (.slice none 0 0)
  have B0 := B0.trans ((below_alloc w2 (.cells #[.bool false, .slice none 0 0, .slice none 0 0] 27)).mono B0.size)
  have k1_0 := k1.c0
  have k1_1 := k1.c1
  have k1_2 := k1.c2
  have k2_0 := k2.c0
  have k2_1 := k2.c1
  have k2_2 := k2.c2
  go_wp2_with fail
  refine (rsame_0 _).mono ?_
  clear k1_0 k1_1 k1_2 k2_0 k2_1 k2_2
  rintro e w3 ⟨rfl, bb⟩
  have k1 := k1.below bb
  have k2 := k2.below bb
  have B0 := B0.trans (bb.mono B0.size)
  clear bb
  have k1_0 := k1.c0
  have k1_1 := k1.c1
  have k1_2 := k1.c2
  have k2_0 := k2.c0
  have k2_1 := k2.c1
  have k2_2 := k2.c2
  go_wp2_with fail
  refine (example_walk _ (HT.out.below B0)).mono ?_
  clear k1_0 k1_1 k1_2 k2_0 k2_1 k2_2
  rintro e w4 ⟨rfl, bb⟩
  have k1 := k1.below bb
  have k2 := k2.below bb
  have B0 := B0.trans (bb.mono B0.size)
  clear bb
  go_wp2
  go_ret
  exact ⟨rfl, B0⟩
set_option maxRecDepth 20000 in
set_option maxHeartbeats 8000000 in
theorem ratioParses_ok  (s : ByteArray) (w : World) (hl : s.size ≤ 500) (x : Rat) (hx : s.data.toList = RatN.qdec x) (hp : ∀ w, Calls Tryz.prog 34 #[.string s] w (PQEnd x w) ∧ Calls Tryz.prog 35 #[.string s] w (PQEnd x w)) (ht : Tab w) :
    Calls Tryz.prog 6 #[.string s] w (BoolEnd true w) := by
  have HT := Lib.hid ht
  clear ht
  obtain ⟨hsm1, hsm2⟩ := text_small x s hx hl
  have HX := Lib.hid hx
  have HSM1 := Lib.hid hsm1
  have HSM2 := Lib.hid hsm2
  clear hx hsm1 hsm2
  have HP := Lib.hid hp
  clear hp
  have B0 := Below.refl w.heap.size w
  go_enter Tryz.func6, Tryz.ntmps6
  go_wp2_with fail
  refine ((HP.out _).1).mono ?_
  rintro e w1 ⟨b1, A1, n1, c1, B1, m1, d1, rfl, z1, bb⟩
  have B0 := B0.trans (bb.mono B0.size)
  clear bb
  have z1 := z1.tight HSM1.out HSM2.out
  have z1 := z1.below (below_alloc w1 (.cells #[.bool b1, .slice A1 n1 c1, .slice B1 m1 d1] 27))
  have k1 := Bq.new w1 (w1.heap.size) (by simp) (.bool b1) (.slice A1 n1 c1) (.slice B1 m1 d1)
  have B0 := B0.trans ((below_alloc w1 (.cells #[.bool b1, .slice A1 n1 c1, .slice B1 m1 d1] 27)).mono B0.size)
  have k1_0 := k1.c0
  have k1_1 := k1.c1
  have k1_2 := k1.c2
  go_wp2_with fail
  refine ((HP.out _).2).mono ?_
  clear k1_0 k1_1 k1_2
  rintro e w2 ⟨b2, A2, n2, c2, B2, m2, d2, rfl, z2, bb⟩
  have z1 := z1.below bb
  have k1 := k1.below bb
  have B0 := B0.trans (bb.mono B0.size)
  clear bb
  have z1 := z1.below (below_alloc w2 (.cells #[.bool b2, .slice A2 n2 c2, .slice B2 m2 d2] 27))
  have k1 := k1.below (below_alloc w2 (.cells #[.bool b2, .slice A2 n2 c2, .slice B2 m2 d2] 27))
  have z2 := z2.below (below_alloc w2 (.cells #[.bool b2, .slice A2 n2 c2, .slice B2 m2 d2] 27))
  have k2 := Bq.new w2 (w2.heap.size) (by simp) (.bool b2) (.slice A2 n2 c2) (.slice B2 m2 d2)
  have B0 := B0.trans ((below_alloc w2 (.cells #[.bool b2, .slice A2 n2 c2, .slice B2 m2 d2] 27)).mono B0.size)
  have k1_0 := k1.c0
  have k1_1 := k1.c1
  have k1_2 := k1.c2
  have k2_0 := k2.c0
  have k2_1 := k2.c1
  have k2_2 := k2.c2
  go_wp2_with fail
  refine (rsame_q z1 z2 rfl).mono ?_
  clear k1_0 k1_1 k1_2 k2_0 k2_1 k2_2
  rintro e w3 ⟨rfl, bb⟩
  have z1 := z1.below bb
  have k1 := k1.below bb
  have z2 := z2.below bb
  have k2 := k2.below bb
  have B0 := B0.trans (bb.mono B0.size)
  clear bb
  have k1_0 := k1.c0
  have k1_1 := k1.c1
  have k1_2 := k1.c2
  have k2_0 := k2.c0
  have k2_1 := k2.c1
  have k2_2 := k2.c2
  go_wp2_with fail
  refine (qtext_q (z1.qv) (by omega) (by omega) (HT.out.below B0) s HX.out).mono ?_
  clear k1_0 k1_1 k1_2 k2_0 k2_1 k2_2
  rintro e w4 ⟨rfl, bb⟩
  have z1 := z1.below bb
  have k1 := k1.below bb
  have z2 := z2.below bb
  have k2 := k2.below bb
  have B0 := B0.trans (bb.mono B0.size)
  clear bb
  have k1_0 := k1.c0
  have k1_1 := k1.c1
  have k1_2 := k1.c2
  have k2_0 := k2.c0
  have k2_1 := k2.c1
  have k2_2 := k2.c2
  go_wp2_with fail
  refine (example_walk _ (HT.out.below B0)).mono ?_
  clear k1_0 k1_1 k1_2 k2_0 k2_1 k2_2
  rintro e w5 ⟨rfl, bb⟩
  have z1 := z1.below bb
  have k1 := k1.below bb
  have z2 := z2.below bb
  have k2 := k2.below bb
  have B0 := B0.trans (bb.mono B0.size)
  clear bb
  go_wp2
  go_ret
  exact ⟨rfl, B0⟩
theorem ratioParses_walk (w : World) (s : ByteArray) (hs : s.size ≤ maxLen) (ht : Tab w) : Calls Tryz.prog 6 #[.string s] w (BoolEnd true w) := by
  unfold maxLen at hs
  by_cases hl : 500 < s.size
  · exact ratioParses_long s w (by omega) hl ht
  · rcases q_outs s (by omega) with ⟨code, h0, hp⟩ | ⟨x, hx, hp⟩
    · exact ratioParses_err s w (by omega) code h0 hp ht
    · exact ratioParses_ok s w (by omega) x hx hp ht
end Go.Proofs.YtfdildganfjahaaGreatDoor
