/-
  The walk of garmentlaw06.CodecDecodes.
-/
import Derived.Test.YtmklladpalcjpaaDoorCodH
namespace Go.Proofs.YtmklladpalcjpaaDoor
open Go.RowKit Cod
set_option linter.unusedVariables false
set_option maxRecDepth 20000 in
set_option maxHeartbeats 2000000 in
theorem lawcodecdecodes_walk (w : World) (s : ByteArray) (hs : s.size ≤ 140737488351232) (ht : Tab w) : Calls Tryd.prog 3 #[.string s] w (BoolAnd true w) := by
  have B0 := Below.refl w.heap.size w
  have HT := Lib.hid ht
  clear ht
  have Hs := Lib.hid hs
  by_cases hbig : 21000 < s.size
  · go_enter Tryd.func3, Tryd.ntmps3
    go_wp2_with (first | (go_at_call 10; (with_reducible refine (example_walk _ HT.out).mono ?_); rintro e w9 ⟨rfl, bb⟩; have HT := Lib.hid (HT.out.below bb); have B0 := B0.trans (bb.mono B0.size); clear bb))
    all_goals go_ret
    all_goals exact ⟨rfl, B0⟩
  · clear hs
    cases hR : decd s.data.toList with
    | error x =>
      have HR := Lib.hid hR
      clear hR
      go_enter Tryd.func3, Tryd.ntmps3
      go_wp2_with (first | (go_at_call 11; (with_reducible refine (decode_c s _ Hs.out).mono ?_); rw [HR.out]; rintro e w1 ⟨l1, t1, A1, m1, c1, er1, rfl, bb, hR⟩; obtain ⟨rfl, rfl, rfl, rfl, rfl, rfl⟩ := hR; have HT := Lib.hid (HT.out.below bb); have B0 := B0.trans (bb.mono B0.size); clear bb; have HT := Lib.hid (HT.out.below (up_1 _ (.cells #[.bool false, .string ⟨#[]⟩, .slice none 0 0] 25))); have q1 := Bn.new w1 (.bool false) (.string ⟨#[]⟩) (.slice none 0 0) 25; have B0 := B0.alloc B0.size (.cells #[.bool false, .string ⟨#[]⟩, .slice none 0 0] 25); have q1_0 := q1.1; have q1_1 := q1.2.1; have q1_2 := q1.2.2.1) | (go_at_call 12; (with_reducible refine (rdecode_walk s _ Hs.out).mono ?_); rw [HR.out]; rintro e w2 ⟨l2, t2, A2, m2, c2, er2, rfl, bb, hR⟩; obtain ⟨rfl, rfl, rfl, rfl, rfl, rfl⟩ := hR; have q1 := q1.below bb; have HT := Lib.hid (HT.out.below bb); have B0 := B0.trans (bb.mono B0.size); clear bb; have HT := Lib.hid (HT.out.below (up_1 _ (.cells #[.bool false, .string ⟨#[]⟩, .slice none 0 0] 25))); have q2 := Bn.new w2 (.bool false) (.string ⟨#[]⟩) (.slice none 0 0) 25; have B0 := B0.alloc B0.size (.cells #[.bool false, .string ⟨#[]⟩, .slice none 0 0] 25); have q1 := q1.below (up_1 _ (.cells #[.bool false, .string ⟨#[]⟩, .slice none 0 0] 25)); have q1_0 := q1.1; have q1_1 := q1.2.1; have q1_2 := q1.2.2.1; have q2_0 := q2.1; have q2_1 := q2.2.1; have q2_2 := q2.2.2.1) | (go_at_call 13; (with_reducible refine (same_yes zeroN zeroN _ _ _ (RdM.zero _ _) (RdM.zero _ _)).mono ?_); rw [eqN_yes rfl]; rintro e w3 ⟨rfl, bb⟩; have HT := Lib.hid (HT.out.below bb); have B0 := B0.trans (bb.mono B0.size); clear bb) | (go_at_call 10; (with_reducible refine (example_walk _ HT.out).mono ?_); rintro e w9 ⟨rfl, bb⟩; have HT := Lib.hid (HT.out.below bb); have B0 := B0.trans (bb.mono B0.size); clear bb))
      all_goals go_ret
      all_goals exact ⟨rfl, B0⟩
    | ok n =>
      have HR := Lib.hid hR
      clear hR
      go_enter Tryd.func3, Tryd.ntmps3
      go_wp2_with (first | (go_at_call 11; (with_reducible refine (decode_c s _ Hs.out).mono ?_); rw [HR.out]; rintro e w1 ⟨l1, t1, A1, m1, c1, er1, rfl, bb, hR⟩; obtain ⟨he, hM1⟩ := hR; subst he; have hM1 := hM1.any; have HT := Lib.hid (HT.out.below bb); have B0 := B0.trans (bb.mono B0.size); clear bb; have HT := Lib.hid (HT.out.below (up_1 _ (.cells #[.bool l1, .string t1, .slice A1 m1 c1] 25))); have q1 := Bn.new w1 (.bool l1) (.string t1) (.slice A1 m1 c1) 25; have B0 := B0.alloc B0.size (.cells #[.bool l1, .string t1, .slice A1 m1 c1] 25); have hM1 := hM1.below (up_1 _ (.cells #[.bool l1, .string t1, .slice A1 m1 c1] 25)); have q1_0 := q1.1; have q1_1 := q1.2.1; have q1_2 := q1.2.2.1) | (go_at_call 12; (with_reducible refine (rdecode_walk s _ Hs.out).mono ?_); rw [HR.out]; rintro e w2 ⟨l2, t2, A2, m2, c2, er2, rfl, bb, hR⟩; obtain ⟨he, hM2⟩ := hR; subst he; have hM2 := hM2.any; have hM1 := hM1.below bb; have q1 := q1.below bb; have HT := Lib.hid (HT.out.below bb); have B0 := B0.trans (bb.mono B0.size); clear bb; have HT := Lib.hid (HT.out.below (up_1 _ (.cells #[.bool l2, .string t2, .slice A2 m2 c2] 25))); have q2 := Bn.new w2 (.bool l2) (.string t2) (.slice A2 m2 c2) 25; have B0 := B0.alloc B0.size (.cells #[.bool l2, .string t2, .slice A2 m2 c2] 25); have hM1 := hM1.below (up_1 _ (.cells #[.bool l2, .string t2, .slice A2 m2 c2] 25)); have hM2 := hM2.below (up_1 _ (.cells #[.bool l2, .string t2, .slice A2 m2 c2] 25)); have q1 := q1.below (up_1 _ (.cells #[.bool l2, .string t2, .slice A2 m2 c2] 25)); have q1_0 := q1.1; have q1_1 := q1.2.1; have q1_2 := q1.2.2.1; have q2_0 := q2.1; have q2_1 := q2.2.1; have q2_2 := q2.2.2.1) | (go_at_call 13; (with_reducible refine (same_yes n n _ _ _ hM1 hM2).mono ?_); rw [eqN_yes rfl]; rintro e w3 ⟨rfl, bb⟩; have HT := Lib.hid (HT.out.below bb); have B0 := B0.trans (bb.mono B0.size); clear bb) | (go_at_call 10; (with_reducible refine (example_walk _ HT.out).mono ?_); rintro e w9 ⟨rfl, bb⟩; have HT := Lib.hid (HT.out.below bb); have B0 := B0.trans (bb.mono B0.size); clear bb))
      all_goals go_ret
      all_goals exact ⟨rfl, B0⟩
end Go.Proofs.YtmklladpalcjpaaDoor
