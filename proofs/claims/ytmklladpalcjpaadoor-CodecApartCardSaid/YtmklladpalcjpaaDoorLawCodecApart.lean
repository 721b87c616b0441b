/-
  The walk of garmentlaw06.CodecApart.
-/
import Derived.Test.YtmklladpalcjpaaDoorLawCodecPrefixes
namespace Go.Proofs.YtmklladpalcjpaaDoor
open Go.RowKit Cod
set_option linter.unusedVariables false
theorem begins_yes {S : ByteArray} : (S.extract 0 S.size).toList = S.toList := by
  rw [ByteArray.toList_eq, ByteArray.toList_eq, extract_0]
  exact List.take_of_length_le (by simp)
theorem begins_no {a b : Nd} {s t : List UInt8} {S T : ByteArray} (ha : encd a = .ok s) (hb : encd b = .ok t) (hS : S = ofL s) (hT : T = ofL t) (hne : ¬ a = b) : ¬ (T.extract 0 S.size).toList = S.toList := by
  subst hS hT
  intro e
  rw [ByteArray.toList_eq, ByteArray.toList_eq, extract_0, ofL_data, ofL_data, ofL_size] at e
  refine hne (apart (r := t.drop s.length) ha ?_).1
  rw [hb]
  exact congrArg Except.ok (by
    have h := List.take_append_drop s.length t
    rw [e] at h
    exact h.symm)
set_option maxRecDepth 20000 in
set_option maxHeartbeats 2000000 in
theorem lawcodecapart_walk (w : World) (x : Nd) (v : Value) (hx : RdN w x v) (y : Nd) (u : Value) (hy : RdN w y u) (ht : Tab w) : Calls Tryd.prog 7 #[v, u] w (BoolAnd true w) := by
  have B0 := Below.refl w.heap.size w
  have HT := Lib.hid ht
  clear ht
  obtain ⟨l, t, k⟩ := x
  obtain ⟨l', t', k'⟩ := y
  obtain ⟨A, m, c, rfl, -, -, -, -, -⟩ := hx.named
  obtain ⟨A', m', c', rfl, -, -, -, -, -⟩ := hy.named
  have hx := hx.below (up_2 w (.cells #[.bool l, .string (ofL t), .slice A m c] 25) (.cells #[.bool l', .string (ofL t'), .slice A' m' c'] 25))
  have hy := hy.below (up_2 w (.cells #[.bool l, .string (ofL t), .slice A m c] 25) (.cells #[.bool l', .string (ofL t'), .slice A' m' c'] 25))
  have HT := Lib.hid (HT.out.below (up_2 w (.cells #[.bool l, .string (ofL t), .slice A m c] 25) (.cells #[.bool l', .string (ofL t'), .slice A' m' c'] 25)))
  have qa := (Bn.new w (.bool l) (.string (ofL t)) (.slice A m c) 25).up (.cells #[.bool l', .string (ofL t'), .slice A' m' c'] 25)
  have qb := Bn.new (w.alloc (.cells #[.bool l, .string (ofL t), .slice A m c] 25)) (.bool l') (.string (ofL t')) (.slice A' m' c') 25
  rw [show (w.alloc (.cells #[.bool l, .string (ofL t), .slice A m c] 25)).heap.size = w.heap.size + 1 by simp] at qb
  have B0 := up_2 w (.cells #[.bool l, .string (ofL t), .slice A m c] 25) (.cells #[.bool l', .string (ofL t'), .slice A' m' c'] 25)
  have qa_0 := qa.1
  have qa_1 := qa.2.1
  have qa_2 := qa.2.2.1
  have qb_0 := qb.1
  have qb_1 := qb.2.1
  have qb_2 := qb.2.2.1
  by_cases hz : size (.mk l t k) ≤ 21000
  · have HZ : Hid (decide (size (.mk l t k) ≤ 21000) = true) := decide_eq_true hz
    have Hz := Lib.hid hz
    clear hz
    by_cases hz : size (.mk l' t' k') ≤ 21000
    · have HY : Hid (decide (size (.mk l' t' k') ≤ 21000) = true) := decide_eq_true hz
      have Hy := Lib.hid hz
      clear hz
      cases hR : encd (.mk l t k) with
      | error a =>
        have ha : ((a : Int) != 0) = true := by have := encd_bad hR; simp; omega
        have HR := Lib.hid hR
        clear hR
        cases hQ : encd (.mk l' t' k') with
        | error b =>
          have HQ := Lib.hid hQ
          clear hQ
          go_enter Tryd.func7, Tryd.ntmps7
          go_wp2_with (first | (go_at_call 14; (with_reducible refine (small_walk _ _ _ hx).mono ?_); rw [HZ.out]; rintro e w1 ⟨rfl, bb⟩; have hx := hx.below bb; have hy := hy.below bb; have qa := qa.below bb; have qb := qb.below bb; have qa_0 := qa.1; have qa_1 := qa.2.1; have qa_2 := qa.2.2.1; have qb_0 := qb.1; have qb_1 := qb.2.1; have qb_2 := qb.2.2.1; have HT := Lib.hid (HT.out.below bb); have B0 := B0.trans (bb.mono B0.size); clear bb) | (go_at_call 14; (with_reducible refine (small_walk _ _ _ hy).mono ?_); rw [HY.out]; rintro e w2 ⟨rfl, bb⟩; have hx := hx.below bb; have hy := hy.below bb; have qa := qa.below bb; have qb := qb.below bb; have qa_0 := qa.1; have qa_1 := qa.2.1; have qa_2 := qa.2.2.1; have qb_0 := qb.1; have qb_1 := qb.2.1; have qb_2 := qb.2.2.1; have HT := Lib.hid (HT.out.below bb); have B0 := B0.trans (bb.mono B0.size); clear bb) | (go_at_call 15; (with_reducible refine (encode_c hx Hz.out HT.out).mono ?_); rw [HR.out]; rintro e w3 ⟨te, er, rfl, bb, he, hte⟩; subst he; subst hte; have hx := hx.below bb; have hy := hy.below bb; have qa := qa.below bb; have qb := qb.below bb; have qa_0 := qa.1; have qa_1 := qa.2.1; have qa_2 := qa.2.2.1; have qb_0 := qb.1; have qb_1 := qb.2.1; have qb_2 := qb.2.2.1; have HT := Lib.hid (HT.out.below bb); have B0 := B0.trans (bb.mono B0.size); clear bb) | (go_at_call 15; (with_reducible refine (encode_c hy Hy.out HT.out).mono ?_); rw [HQ.out]; rintro e w4 ⟨te, er, rfl, bb, he, hte⟩; subst he; subst hte; have hx := hx.below bb; have hy := hy.below bb; have qa := qa.below bb; have qb := qb.below bb; have qa_0 := qa.1; have qa_1 := qa.2.1; have qa_2 := qa.2.2.1; have qb_0 := qb.1; have qb_1 := qb.2.1; have qb_2 := qb.2.2.1; have HT := Lib.hid (HT.out.below bb); have B0 := B0.trans (bb.mono B0.size); clear bb) | (go_at_call 10; (with_reducible refine (example_walk _ HT.out).mono ?_); rintro e w9 ⟨rfl, bb⟩; have HT := Lib.hid (HT.out.below bb); have B0 := B0.trans (bb.mono B0.size); clear bb))
          all_goals go_ret
          all_goals exact ⟨rfl, B0⟩
        | ok s' =>
          have HQ := Lib.hid hQ
          clear hQ
          go_enter Tryd.func7, Tryd.ntmps7
          go_wp2_with (first | (go_at_call 14; (with_reducible refine (small_walk _ _ _ hx).mono ?_); rw [HZ.out]; rintro e w1 ⟨rfl, bb⟩; have hx := hx.below bb; have hy := hy.below bb; have qa := qa.below bb; have qb := qb.below bb; have qa_0 := qa.1; have qa_1 := qa.2.1; have qa_2 := qa.2.2.1; have qb_0 := qb.1; have qb_1 := qb.2.1; have qb_2 := qb.2.2.1; have HT := Lib.hid (HT.out.below bb); have B0 := B0.trans (bb.mono B0.size); clear bb) | (go_at_call 14; (with_reducible refine (small_walk _ _ _ hy).mono ?_); rw [HY.out]; rintro e w2 ⟨rfl, bb⟩; have hx := hx.below bb; have hy := hy.below bb; have qa := qa.below bb; have qb := qb.below bb; have qa_0 := qa.1; have qa_1 := qa.2.1; have qa_2 := qa.2.2.1; have qb_0 := qb.1; have qb_1 := qb.2.1; have qb_2 := qb.2.2.1; have HT := Lib.hid (HT.out.below bb); have B0 := B0.trans (bb.mono B0.size); clear bb) | (go_at_call 15; (with_reducible refine (encode_c hx Hz.out HT.out).mono ?_); rw [HR.out]; rintro e w3 ⟨te, er, rfl, bb, he, hte⟩; subst he; subst hte; have hx := hx.below bb; have hy := hy.below bb; have qa := qa.below bb; have qb := qb.below bb; have qa_0 := qa.1; have qa_1 := qa.2.1; have qa_2 := qa.2.2.1; have qb_0 := qb.1; have qb_1 := qb.2.1; have qb_2 := qb.2.2.1; have HT := Lib.hid (HT.out.below bb); have B0 := B0.trans (bb.mono B0.size); clear bb) | (go_at_call 15; (with_reducible refine (encode_c hy Hy.out HT.out).mono ?_); rw [HQ.out]; rintro e w4 ⟨te, er, rfl, bb, he, hte⟩; subst he; subst hte; have hx := hx.below bb; have hy := hy.below bb; have qa := qa.below bb; have qb := qb.below bb; have qa_0 := qa.1; have qa_1 := qa.2.1; have qa_2 := qa.2.2.1; have qb_0 := qb.1; have qb_1 := qb.2.1; have qb_2 := qb.2.2.1; have HT := Lib.hid (HT.out.below bb); have B0 := B0.trans (bb.mono B0.size); clear bb) | (go_at_call 10; (with_reducible refine (example_walk _ HT.out).mono ?_); rintro e w9 ⟨rfl, bb⟩; have HT := Lib.hid (HT.out.below bb); have B0 := B0.trans (bb.mono B0.size); clear bb))
          all_goals go_ret
          all_goals exact ⟨rfl, B0⟩
      | ok s0 =>
        have HR := Lib.hid hR
        obtain ⟨S, hS⟩ : ∃ S, S = ofL s0 := ⟨_, rfl⟩
        have HS := Lib.hid hS
        have hSs : S.size ≤ 20000 := by rw [hS, ofL_size]; exact (encd_ok hR).2
        clear hS hR
        cases hQ : encd (.mk l' t' k') with
        | error b =>
          have hb : ((b : Int) != 0) = true := by have := encd_bad hQ; simp; omega
          have HQ := Lib.hid hQ
          clear hQ
          go_enter Tryd.func7, Tryd.ntmps7
          go_wp2_with (first | (go_at_call 14; (with_reducible refine (small_walk _ _ _ hx).mono ?_); rw [HZ.out]; rintro e w1 ⟨rfl, bb⟩; have hx := hx.below bb; have hy := hy.below bb; have qa := qa.below bb; have qb := qb.below bb; have qa_0 := qa.1; have qa_1 := qa.2.1; have qa_2 := qa.2.2.1; have qb_0 := qb.1; have qb_1 := qb.2.1; have qb_2 := qb.2.2.1; have HT := Lib.hid (HT.out.below bb); have B0 := B0.trans (bb.mono B0.size); clear bb) | (go_at_call 14; (with_reducible refine (small_walk _ _ _ hy).mono ?_); rw [HY.out]; rintro e w2 ⟨rfl, bb⟩; have hx := hx.below bb; have hy := hy.below bb; have qa := qa.below bb; have qb := qb.below bb; have qa_0 := qa.1; have qa_1 := qa.2.1; have qa_2 := qa.2.2.1; have qb_0 := qb.1; have qb_1 := qb.2.1; have qb_2 := qb.2.2.1; have HT := Lib.hid (HT.out.below bb); have B0 := B0.trans (bb.mono B0.size); clear bb) | (go_at_call 15; (with_reducible refine (encode_c hx Hz.out HT.out).mono ?_); rw [HR.out]; rintro e w3 ⟨te, er, rfl, bb, he, hte⟩; subst he; rw [← HS.out] at hte; subst hte; have hx := hx.below bb; have hy := hy.below bb; have qa := qa.below bb; have qb := qb.below bb; have qa_0 := qa.1; have qa_1 := qa.2.1; have qa_2 := qa.2.2.1; have qb_0 := qb.1; have qb_1 := qb.2.1; have qb_2 := qb.2.2.1; have HT := Lib.hid (HT.out.below bb); have B0 := B0.trans (bb.mono B0.size); clear bb) | (go_at_call 15; (with_reducible refine (encode_c hy Hy.out HT.out).mono ?_); rw [HQ.out]; rintro e w4 ⟨te, er, rfl, bb, he, hte⟩; subst he; subst hte; have hx := hx.below bb; have hy := hy.below bb; have qa := qa.below bb; have qb := qb.below bb; have qa_0 := qa.1; have qa_1 := qa.2.1; have qa_2 := qa.2.2.1; have qb_0 := qb.1; have qb_1 := qb.2.1; have qb_2 := qb.2.2.1; have HT := Lib.hid (HT.out.below bb); have B0 := B0.trans (bb.mono B0.size); clear bb) | (go_at_call 10; (with_reducible refine (example_walk _ HT.out).mono ?_); rintro e w9 ⟨rfl, bb⟩; have HT := Lib.hid (HT.out.below bb); have B0 := B0.trans (bb.mono B0.size); clear bb))
          all_goals go_ret
          all_goals exact ⟨rfl, B0⟩
        | ok s1 =>
          have HQ := Lib.hid hQ
          by_cases heq : Nd.mk l t k = Nd.mk l' t' k'
          · have HE := Lib.hid (eqN_yes heq)
            have HQ' : Hid (encd (.mk l' t' k') = .ok s0) := by show _ = _; rw [← heq]; exact HR.out
            have hB := begins_yes (S := S)
            clear hQ heq HQ
            go_enter Tryd.func7, Tryd.ntmps7
            go_wp2_with (first | (go_at_call 14; (with_reducible refine (small_walk _ _ _ hx).mono ?_); rw [HZ.out]; rintro e w1 ⟨rfl, bb⟩; have hx := hx.below bb; have hy := hy.below bb; have qa := qa.below bb; have qb := qb.below bb; have qa_0 := qa.1; have qa_1 := qa.2.1; have qa_2 := qa.2.2.1; have qb_0 := qb.1; have qb_1 := qb.2.1; have qb_2 := qb.2.2.1; have HT := Lib.hid (HT.out.below bb); have B0 := B0.trans (bb.mono B0.size); clear bb) | (go_at_call 14; (with_reducible refine (small_walk _ _ _ hy).mono ?_); rw [HY.out]; rintro e w2 ⟨rfl, bb⟩; have hx := hx.below bb; have hy := hy.below bb; have qa := qa.below bb; have qb := qb.below bb; have qa_0 := qa.1; have qa_1 := qa.2.1; have qa_2 := qa.2.2.1; have qb_0 := qb.1; have qb_1 := qb.2.1; have qb_2 := qb.2.2.1; have HT := Lib.hid (HT.out.below bb); have B0 := B0.trans (bb.mono B0.size); clear bb) | (go_at_call 15; (with_reducible refine (encode_c hx Hz.out HT.out).mono ?_); rw [HR.out]; rintro e w3 ⟨te, er, rfl, bb, he, hte⟩; subst he; rw [← HS.out] at hte; subst hte; have hx := hx.below bb; have hy := hy.below bb; have qa := qa.below bb; have qb := qb.below bb; have qa_0 := qa.1; have qa_1 := qa.2.1; have qa_2 := qa.2.2.1; have qb_0 := qb.1; have qb_1 := qb.2.1; have qb_2 := qb.2.2.1; have HT := Lib.hid (HT.out.below bb); have B0 := B0.trans (bb.mono B0.size); clear bb) | (go_at_call 15; (with_reducible refine (encode_c hy Hy.out HT.out).mono ?_); rw [HQ'.out]; rintro e w4 ⟨te, er, rfl, bb, he, hte⟩; subst he; rw [← HS.out] at hte; have hte' := hte; clear hte; subst hte'; have hx := hx.below bb; have hy := hy.below bb; have qa := qa.below bb; have qb := qb.below bb; have qa_0 := qa.1; have qa_1 := qa.2.1; have qa_2 := qa.2.2.1; have qb_0 := qb.1; have qb_1 := qb.2.1; have qb_2 := qb.2.2.1; have HT := Lib.hid (HT.out.below bb); have B0 := B0.trans (bb.mono B0.size); clear bb) | (go_at_call 13; (with_reducible refine (same_yes _ _ _ _ _ hx hy).mono ?_); rw [HE.out]; rintro e w5 ⟨rfl, bb⟩; have hx := hx.below bb; have hy := hy.below bb; have qa := qa.below bb; have qb := qb.below bb; have qa_0 := qa.1; have qa_1 := qa.2.1; have qa_2 := qa.2.2.1; have qb_0 := qb.1; have qb_1 := qb.2.1; have qb_2 := qb.2.2.1; have HT := Lib.hid (HT.out.below bb); have B0 := B0.trans (bb.mono B0.size); clear bb) | (go_at_call 10; (with_reducible refine (example_walk _ HT.out).mono ?_); rintro e w9 ⟨rfl, bb⟩; have HT := Lib.hid (HT.out.below bb); have B0 := B0.trans (bb.mono B0.size); clear bb))
            all_goals go_ret
            all_goals exact ⟨rfl, B0⟩
          · have HE := Lib.hid (eqN_no heq)
            obtain ⟨T, hT⟩ : ∃ T, T = ofL s1 := ⟨_, rfl⟩
            have HTT := Lib.hid hT
            have hTs : T.size ≤ 20000 := by rw [hT, ofL_size]; exact (encd_ok hQ).2
            have hB : ((T.extract 0 S.size).toList == S.toList) = false := beq_eq_false_iff_ne.2 (begins_no HR.out hQ HS.out hT heq)
            clear hQ hT heq
            go_enter Tryd.func7, Tryd.ntmps7
            go_wp2_with (first | (go_at_call 14; (with_reducible refine (small_walk _ _ _ hx).mono ?_); rw [HZ.out]; rintro e w1 ⟨rfl, bb⟩; have hx := hx.below bb; have hy := hy.below bb; have qa := qa.below bb; have qb := qb.below bb; have qa_0 := qa.1; have qa_1 := qa.2.1; have qa_2 := qa.2.2.1; have qb_0 := qb.1; have qb_1 := qb.2.1; have qb_2 := qb.2.2.1; have HT := Lib.hid (HT.out.below bb); have B0 := B0.trans (bb.mono B0.size); clear bb) | (go_at_call 14; (with_reducible refine (small_walk _ _ _ hy).mono ?_); rw [HY.out]; rintro e w2 ⟨rfl, bb⟩; have hx := hx.below bb; have hy := hy.below bb; have qa := qa.below bb; have qb := qb.below bb; have qa_0 := qa.1; have qa_1 := qa.2.1; have qa_2 := qa.2.2.1; have qb_0 := qb.1; have qb_1 := qb.2.1; have qb_2 := qb.2.2.1; have HT := Lib.hid (HT.out.below bb); have B0 := B0.trans (bb.mono B0.size); clear bb) | (go_at_call 15; (with_reducible refine (encode_c hx Hz.out HT.out).mono ?_); rw [HR.out]; rintro e w3 ⟨te, er, rfl, bb, he, hte⟩; subst he; rw [← HS.out] at hte; subst hte; have hx := hx.below bb; have hy := hy.below bb; have qa := qa.below bb; have qb := qb.below bb; have qa_0 := qa.1; have qa_1 := qa.2.1; have qa_2 := qa.2.2.1; have qb_0 := qb.1; have qb_1 := qb.2.1; have qb_2 := qb.2.2.1; have HT := Lib.hid (HT.out.below bb); have B0 := B0.trans (bb.mono B0.size); clear bb) | (go_at_call 15; (with_reducible refine (encode_c hy Hy.out HT.out).mono ?_); rw [HQ.out]; rintro e w4 ⟨te, er, rfl, bb, he, hte⟩; subst he; rw [← HTT.out] at hte; subst hte; have hx := hx.below bb; have hy := hy.below bb; have qa := qa.below bb; have qb := qb.below bb; have qa_0 := qa.1; have qa_1 := qa.2.1; have qa_2 := qa.2.2.1; have qb_0 := qb.1; have qb_1 := qb.2.1; have qb_2 := qb.2.2.1; have HT := Lib.hid (HT.out.below bb); have B0 := B0.trans (bb.mono B0.size); clear bb) | (go_at_call 13; (with_reducible refine (same_yes _ _ _ _ _ hx hy).mono ?_); rw [HE.out]; rintro e w5 ⟨rfl, bb⟩; have hx := hx.below bb; have hy := hy.below bb; have qa := qa.below bb; have qb := qb.below bb; have qa_0 := qa.1; have qa_1 := qa.2.1; have qa_2 := qa.2.2.1; have qb_0 := qb.1; have qb_1 := qb.2.1; have qb_2 := qb.2.2.1; have HT := Lib.hid (HT.out.below bb); have B0 := B0.trans (bb.mono B0.size); clear bb) | (go_at_call 10; (with_reducible refine (example_walk _ HT.out).mono ?_); rintro e w9 ⟨rfl, bb⟩; have HT := Lib.hid (HT.out.below bb); have B0 := B0.trans (bb.mono B0.size); clear bb))
            all_goals go_ret
            all_goals exact ⟨rfl, B0⟩
    · have HY : Hid (decide (size (.mk l' t' k') ≤ 21000) = false) := decide_eq_false hz
      clear hz
      go_enter Tryd.func7, Tryd.ntmps7
      go_wp2_with (first | (go_at_call 14; (with_reducible refine (small_walk _ _ _ hx).mono ?_); rw [HZ.out]; rintro e w1 ⟨rfl, bb⟩; have hx := hx.below bb; have hy := hy.below bb; have qa := qa.below bb; have qb := qb.below bb; have qa_0 := qa.1; have qa_1 := qa.2.1; have qa_2 := qa.2.2.1; have qb_0 := qb.1; have qb_1 := qb.2.1; have qb_2 := qb.2.2.1; have HT := Lib.hid (HT.out.below bb); have B0 := B0.trans (bb.mono B0.size); clear bb) | (go_at_call 14; (with_reducible refine (small_walk _ _ _ hy).mono ?_); rw [HY.out]; rintro e w2 ⟨rfl, bb⟩; have hx := hx.below bb; have hy := hy.below bb; have qa := qa.below bb; have qb := qb.below bb; have qa_0 := qa.1; have qa_1 := qa.2.1; have qa_2 := qa.2.2.1; have qb_0 := qb.1; have qb_1 := qb.2.1; have qb_2 := qb.2.2.1; have HT := Lib.hid (HT.out.below bb); have B0 := B0.trans (bb.mono B0.size); clear bb) | (go_at_call 10; (with_reducible refine (example_walk _ HT.out).mono ?_); rintro e w9 ⟨rfl, bb⟩; have HT := Lib.hid (HT.out.below bb); have B0 := B0.trans (bb.mono B0.size); clear bb))
      all_goals go_ret
      all_goals exact ⟨rfl, B0⟩
  · have HZ : Hid (decide (size (.mk l t k) ≤ 21000) = false) := decide_eq_false hz
    clear hz
    go_enter Tryd.func7, Tryd.ntmps7
    go_wp2_with (first | (go_at_call 14; (with_reducible refine (small_walk _ _ _ hx).mono ?_); rw [HZ.out]; rintro e w1 ⟨rfl, bb⟩; have hx := hx.below bb; have hy := hy.below bb; have qa := qa.below bb; have qb := qb.below bb; have qa_0 := qa.1; have qa_1 := qa.2.1; have qa_2 := qa.2.2.1; have qb_0 := qb.1; have qb_1 := qb.2.1; have qb_2 := qb.2.2.1; have HT := Lib.hid (HT.out.below bb); have B0 := B0.trans (bb.mono B0.size); clear bb) | (go_at_call 10; (with_reducible refine (example_walk _ HT.out).mono ?_); rintro e w9 ⟨rfl, bb⟩; have HT := Lib.hid (HT.out.below bb); have B0 := B0.trans (bb.mono B0.size); clear bb))
    all_goals go_ret
    all_goals exact ⟨rfl, B0⟩
end Go.Proofs.YtmklladpalcjpaaDoor
