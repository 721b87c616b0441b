/-
  The walk of garmentlaw06.CodecRoundTrip.
-/
import Derived.Test.YtmklladpalcjpaaDoorCodH
namespace Go.Proofs.YtmklladpalcjpaaDoor
open Go.RowKit Cod
set_option linter.unusedVariables false
set_option maxRecDepth 20000 in
set_option maxHeartbeats 2000000 in
theorem lawcodecroundtrip_walk (w : World) (x : Nd) (v : Value) (hx : RdN w x v) (ht : Tab w) : Calls Tryd.prog 4 #[v] w (BoolAnd true w) := by
  have B0 := Below.refl w.heap.size w
  have HT := Lib.hid ht
  clear ht
  obtain ⟨l, t, k⟩ := x
  obtain ⟨A, m, c, rfl, -, -, -, -, -⟩ := hx.named
  have hx := hx.below (up_1 w (.cells #[.bool l, .string (ofL t), .slice A m c] 25))
  have HT := Lib.hid (HT.out.below (up_1 w (.cells #[.bool l, .string (ofL t), .slice A m c] 25)))
  have B0 := B0.alloc B0.size (.cells #[.bool l, .string (ofL t), .slice A m c] 25)
  have qa := Bn.new w (.bool l) (.string (ofL t)) (.slice A m c) 25
  have qa_0 := qa.1
  have qa_1 := qa.2.1
  have qa_2 := qa.2.2.1
  by_cases hz : size (.mk l t k) ≤ 21000
  · have HZ : Hid (decide (size (.mk l t k) ≤ 21000) = true) := decide_eq_true hz
    have Hz := Lib.hid hz
    clear hz
    cases hR : encd (.mk l t k) with
    | error y =>
      have hy : ((y : Int) == 0) = false := by have := encd_bad hR; simp; omega
      have HR := Lib.hid hR
      clear hR
      go_enter Tryd.func4, Tryd.ntmps4
      go_wp2_with (first | (go_at_call 14; (with_reducible refine (small_walk _ _ _ hx).mono ?_); rw [HZ.out]; rintro e w1 ⟨rfl, bb⟩; have hx := hx.below bb; have qa := qa.below bb; have qa_0 := qa.1; have qa_1 := qa.2.1; have qa_2 := qa.2.2.1; have HT := Lib.hid (HT.out.below bb); have B0 := B0.trans (bb.mono B0.size); clear bb) | (go_at_call 15; (with_reducible refine (encode_c hx Hz.out HT.out).mono ?_); rw [HR.out]; rintro e w2 ⟨te, er, rfl, bb, he, rfl⟩; subst he; have hx := hx.below bb; have qa := qa.below bb; have qa_0 := qa.1; have qa_1 := qa.2.1; have qa_2 := qa.2.2.1; have HT := Lib.hid (HT.out.below bb); have B0 := B0.trans (bb.mono B0.size); clear bb) | (go_at_call 10; (with_reducible refine (example_walk _ HT.out).mono ?_); rintro e w9 ⟨rfl, bb⟩; have HT := Lib.hid (HT.out.below bb); have B0 := B0.trans (bb.mono B0.size); clear bb))
      all_goals go_ret
      all_goals exact ⟨rfl, B0⟩
    | ok s =>
      have HR := Lib.hid hR
      have HD := Lib.hid (dec_enc hR)
      have Hs : Hid ((ofL s).size ≤ 140737488351232) := by
        have := (encd_ok hR).2
        show s.length ≤ _
        omega
      clear hR
      go_enter Tryd.func4, Tryd.ntmps4
      go_wp2_with (first | (go_at_call 14; (with_reducible refine (small_walk _ _ _ hx).mono ?_); rw [HZ.out]; rintro e w1 ⟨rfl, bb⟩; have hx := hx.below bb; have qa := qa.below bb; have qa_0 := qa.1; have qa_1 := qa.2.1; have qa_2 := qa.2.2.1; have HT := Lib.hid (HT.out.below bb); have B0 := B0.trans (bb.mono B0.size); clear bb) | (go_at_call 15; (with_reducible refine (encode_c hx Hz.out HT.out).mono ?_); rw [HR.out]; rintro e w2 ⟨te, er, rfl, bb, he, rfl⟩; subst he; have hx := hx.below bb; have qa := qa.below bb; have qa_0 := qa.1; have qa_1 := qa.2.1; have qa_2 := qa.2.2.1; have HT := Lib.hid (HT.out.below bb); have B0 := B0.trans (bb.mono B0.size); clear bb) | (go_at_call 11; (with_reducible refine (decode_c (ofL s) _ Hs.out).mono ?_); rw [ofL_data, HD.out]; rintro e w3 ⟨l1, t1, A1, m1, c1, er1, rfl, bb, hR⟩; obtain ⟨he, hM1⟩ := hR; subst he; have hM1 := hM1.any; have hx := hx.below bb; have qa := qa.below bb; have qa_0 := qa.1; have qa_1 := qa.2.1; have qa_2 := qa.2.2.1; have HT := Lib.hid (HT.out.below bb); have B0 := B0.trans (bb.mono B0.size); clear bb; have HT := Lib.hid (HT.out.below (up_1 _ (.cells #[.bool l1, .string t1, .slice A1 m1 c1] 25))); have q1 := Bn.new w3 (.bool l1) (.string t1) (.slice A1 m1 c1) 25; have B0 := B0.alloc B0.size (.cells #[.bool l1, .string t1, .slice A1 m1 c1] 25); have hM1 := hM1.below (up_1 _ (.cells #[.bool l1, .string t1, .slice A1 m1 c1] 25)); have hx := hx.below (up_1 _ (.cells #[.bool l1, .string t1, .slice A1 m1 c1] 25)); have qa := qa.below (up_1 _ (.cells #[.bool l1, .string t1, .slice A1 m1 c1] 25)); have qa_0 := qa.1; have qa_1 := qa.2.1; have qa_2 := qa.2.2.1; have q1_0 := q1.1; have q1_1 := q1.2.1; have q1_2 := q1.2.2.1) | (go_at_call 13; (with_reducible refine (same_yes _ _ _ _ _ hM1 hx).mono ?_); rw [eqN_yes rfl]; rintro e w4 ⟨rfl, bb⟩; have HT := Lib.hid (HT.out.below bb); have B0 := B0.trans (bb.mono B0.size); clear bb) | (go_at_call 10; (with_reducible refine (example_walk _ HT.out).mono ?_); rintro e w9 ⟨rfl, bb⟩; have HT := Lib.hid (HT.out.below bb); have B0 := B0.trans (bb.mono B0.size); clear bb))
      all_goals go_ret
      all_goals exact ⟨rfl, B0⟩
  · have HZ : Hid (decide (size (.mk l t k) ≤ 21000) = false) := decide_eq_false hz
    clear hz
    go_enter Tryd.func4, Tryd.ntmps4
    go_wp2_with (first | (go_at_call 14; (with_reducible refine (small_walk _ _ _ hx).mono ?_); rw [HZ.out]; rintro e w1 ⟨rfl, bb⟩; have hx := hx.below bb; have qa := qa.below bb; have qa_0 := qa.1; have qa_1 := qa.2.1; have qa_2 := qa.2.2.1; have HT := Lib.hid (HT.out.below bb); have B0 := B0.trans (bb.mono B0.size); clear bb) | (go_at_call 10; (with_reducible refine (example_walk _ HT.out).mono ?_); rintro e w9 ⟨rfl, bb⟩; have HT := Lib.hid (HT.out.below bb); have B0 := B0.trans (bb.mono B0.size); clear bb))
    all_goals go_ret
    all_goals exact ⟨rfl, B0⟩
end Go.Proofs.YtmklladpalcjpaaDoor
