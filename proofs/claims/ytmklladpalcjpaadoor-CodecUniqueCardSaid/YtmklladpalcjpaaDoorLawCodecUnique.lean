/-
  The walk of garmentlaw06.CodecUnique.
-/
import Derived.Test.YtmklladpalcjpaaDoorCodH
namespace Go.Proofs.YtmklladpalcjpaaDoor
open Go.RowKit Cod
set_option linter.unusedVariables false
set_option maxRecDepth 20000 in
set_option maxHeartbeats 2000000 in
theorem lawcodecunique_walk (w : World) (s : ByteArray) (hs : s.size ≤ 140737488351232) (ht : Tab w) : Calls Tryd.prog 5 #[.string s] w (BoolAnd true w) := by
  have B0 := Below.refl w.heap.size w
  have HT := Lib.hid ht
  clear ht
  have Hs := Lib.hid hs
  by_cases hbig : 21000 < s.size
  · go_enter Tryd.func5, Tryd.ntmps5
    go_wp2_with (first | (go_at_call 10; (with_reducible refine (example_walk _ HT.out).mono ?_); rintro e w9 ⟨rfl, bb⟩; have HT := Lib.hid (HT.out.below bb); have B0 := B0.trans (bb.mono B0.size); clear bb))
    all_goals go_ret
    all_goals exact ⟨rfl, B0⟩
  · clear hs
    cases hR : decd s.data.toList with
    | error y =>
      have hy : ((y : Int) == 0) = false := by have := decd_bad hR; simp; omega
      have HR := Lib.hid hR
      clear hR
      go_enter Tryd.func5, Tryd.ntmps5
      go_wp2_with (first | (go_at_call 11; (with_reducible refine (decode_c s _ Hs.out).mono ?_); rw [HR.out]; rintro e w1 ⟨l1, t1, A1, m1, c1, er1, rfl, bb, hR⟩; obtain ⟨rfl, rfl, rfl, rfl, rfl, rfl⟩ := hR; have HT := Lib.hid (HT.out.below bb); have B0 := B0.trans (bb.mono B0.size); clear bb; have HT := Lib.hid (HT.out.below (up_1 _ (.cells #[.bool false, .string ⟨#[]⟩, .slice none 0 0] 25))); have q1 := Bn.new w1 (.bool false) (.string ⟨#[]⟩) (.slice none 0 0) 25; have B0 := B0.alloc B0.size (.cells #[.bool false, .string ⟨#[]⟩, .slice none 0 0] 25); have q1_0 := q1.1; have q1_1 := q1.2.1; have q1_2 := q1.2.2.1) | (go_at_call 10; (with_reducible refine (example_walk _ HT.out).mono ?_); rintro e w9 ⟨rfl, bb⟩; have HT := Lib.hid (HT.out.below bb); have B0 := B0.trans (bb.mono B0.size); clear bb))
      all_goals go_ret
      all_goals exact ⟨rfl, B0⟩
    | ok n =>
      have hE := enc_dec hR
      have Hz : Hid (size n ≤ 21000) := by
        have h1 := encd_ok hE
        have h2 := size_le n 12 _ h1.1
        show _ ≤ _
        omega
      have HE := Lib.hid hE
      have HR := Lib.hid hR
      clear hR hE
      go_enter Tryd.func5, Tryd.ntmps5
      go_wp2_with (first | (go_at_call 11; (with_reducible refine (decode_c s _ Hs.out).mono ?_); rw [HR.out]; rintro e w1 ⟨l1, t1, A1, m1, c1, er1, rfl, bb, hR⟩; obtain ⟨he, hM1⟩ := hR; subst he; have hM1 := hM1.any; have HT := Lib.hid (HT.out.below bb); have B0 := B0.trans (bb.mono B0.size); clear bb; have HT := Lib.hid (HT.out.below (up_1 _ (.cells #[.bool l1, .string t1, .slice A1 m1 c1] 25))); have q1 := Bn.new w1 (.bool l1) (.string t1) (.slice A1 m1 c1) 25; have B0 := B0.alloc B0.size (.cells #[.bool l1, .string t1, .slice A1 m1 c1] 25); have hM1 := hM1.below (up_1 _ (.cells #[.bool l1, .string t1, .slice A1 m1 c1] 25)); have q1_0 := q1.1; have q1_1 := q1.2.1; have q1_2 := q1.2.2.1) | (go_at_call 15; (with_reducible refine (encode_c hM1 Hz.out HT.out).mono ?_); rw [HE.out]; rintro e w2 ⟨te, er, rfl, bb, he, rfl⟩; subst he; rw [ofL_eq]; have HT := Lib.hid (HT.out.below bb); have B0 := B0.trans (bb.mono B0.size); clear bb) | (go_at_call 10; (with_reducible refine (example_walk _ HT.out).mono ?_); rintro e w9 ⟨rfl, bb⟩; have HT := Lib.hid (HT.out.below bb); have B0 := B0.trans (bb.mono B0.size); clear bb))
      all_goals go_ret
      all_goals exact ⟨rfl, B0⟩
end Go.Proofs.YtmklladpalcjpaaDoor
