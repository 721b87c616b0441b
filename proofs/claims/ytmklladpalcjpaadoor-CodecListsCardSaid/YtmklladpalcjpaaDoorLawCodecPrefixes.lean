/-
  The walk of garmentlaw06.CodecPrefixes.
-/
import Derived.Test.YtmklladpalcjpaaDoorCodH
namespace Go.Proofs.YtmklladpalcjpaaDoor
open Go.RowKit Cod
set_option linter.unusedVariables false
theorem extract_0 (s : ByteArray) (n : Nat) : (s.extract 0 n).data.toList = s.data.toList.take n := by
  have h := extract_L s 0 n
  rw [Nat.zero_add] at h
  rw [h, ofL_data, List.drop_zero]
theorem data_append (s t : ByteArray) : (s ++ t).data.toList = s.data.toList ++ t.data.toList := by simp [ByteArray.data_append]
theorem cut_err {n : Nd} {s0 : List UInt8} {S : ByteArray} {C : Nat} (h : encd n = .ok s0) (hS : S = ofL s0) (hC : C < S.size) : decd (S.extract 0 C).data.toList = .error 4 := by
  subst hS
  rw [extract_0, ofL_data]
  refine dec_cut (p := s0.take C) (q := s0.drop C) (by rw [List.take_append_drop]; exact h) (fun e => ?_)
  have h1 := congrArg List.length e
  rw [List.length_drop, List.length_nil] at h1
  rw [ofL_size] at hC
  omega
theorem more_err {n : Nd} {s0 : List UInt8} {S M : ByteArray} (h : encd n = .ok s0) (hS : S = ofL s0) (hM : ¬ M.size = 0) (hl : S.size + M.size ≤ 20000) : decd (S ++ M).data.toList = .error 2 := by
  subst hS
  rw [data_append, ofL_data]
  have h1 : M.data.toList.length = M.size := by simp
  rw [ofL_size] at hl
  exact dec_more h (fun e => hM (by rw [← h1, e]; rfl)) (by omega)
set_option maxRecDepth 20000 in
set_option maxHeartbeats 2000000 in
theorem lawcodecprefixes_walk (w : World) (x : Nd) (v : Value) (hx : RdN w x v) (cut : Int) (M : ByteArray) (hM : M.size ≤ 140737488351232) (ht : Tab w) : Calls Tryd.prog 6 #[v, .int .i64 cut, .string M] w (BoolAnd true w) := by
  have B0 := Below.refl w.heap.size w
  have HT := Lib.hid ht
  clear ht
  obtain ⟨l, t, k⟩ := x
  obtain ⟨A, m, c, rfl, -, -, -, -, -⟩ := hx.named
  have hx := hx.below (up_1 w (.cells #[.bool l, .string (ofL t), .slice A m c] 25))
  have HT := Lib.hid (HT.out.below (up_1 w (.cells #[.bool l, .string (ofL t), .slice A m c] 25)))
  have B0 := B0.alloc B0.size (.cells #[.bool l, .string (ofL t), .slice A m c] 25)
  have qa := Bn.new w (.bool l) (.string (ofL t)) (.slice A m c) 25
  have qa_0 := qa.1
  have qa_1 := qa.2.1
  have qa_2 := qa.2.2.1
  by_cases hz : size (.mk l t k) ≤ 21000
  · have HZ : Hid (decide (size (.mk l t k) ≤ 21000) = true) := decide_eq_true hz
    have Hz := Lib.hid hz
    clear hz
    by_cases hM1 : 100 < M.size
    · go_enter Tryd.func6, Tryd.ntmps6
      go_wp2_with (first | (go_at_call 14; (with_reducible refine (small_walk _ _ _ hx).mono ?_); rw [HZ.out]; rintro e w1 ⟨rfl, bb⟩; have hx := hx.below bb; have qa := qa.below bb; have qa_0 := qa.1; have qa_1 := qa.2.1; have qa_2 := qa.2.2.1; have HT := Lib.hid (HT.out.below bb); have B0 := B0.trans (bb.mono B0.size); clear bb) | (go_at_call 10; (with_reducible refine (example_walk _ HT.out).mono ?_); rintro e w9 ⟨rfl, bb⟩; have HT := Lib.hid (HT.out.below bb); have B0 := B0.trans (bb.mono B0.size); clear bb))
      all_goals go_ret
      all_goals exact ⟨rfl, B0⟩
    · cases hR : encd (.mk l t k) with
      | error y =>
        have hy : ((y : Int) == 0) = false := by have := encd_bad hR; simp; omega
        have HR := Lib.hid hR
        clear hR
        go_enter Tryd.func6, Tryd.ntmps6
        go_wp2_with (first | (go_at_call 14; (with_reducible refine (small_walk _ _ _ hx).mono ?_); rw [HZ.out]; rintro e w1 ⟨rfl, bb⟩; have hx := hx.below bb; have qa := qa.below bb; have qa_0 := qa.1; have qa_1 := qa.2.1; have qa_2 := qa.2.2.1; have HT := Lib.hid (HT.out.below bb); have B0 := B0.trans (bb.mono B0.size); clear bb) | (go_at_call 15; (with_reducible refine (encode_c hx Hz.out HT.out).mono ?_); rw [HR.out]; rintro e w2 ⟨te, er, rfl, bb, he, rfl⟩; subst he; have hx := hx.below bb; have qa := qa.below bb; have qa_0 := qa.1; have qa_1 := qa.2.1; have qa_2 := qa.2.2.1; have HT := Lib.hid (HT.out.below bb); have B0 := B0.trans (bb.mono B0.size); clear bb) | (go_at_call 10; (with_reducible refine (example_walk _ HT.out).mono ?_); rintro e w9 ⟨rfl, bb⟩; have HT := Lib.hid (HT.out.below bb); have B0 := B0.trans (bb.mono B0.size); clear bb))
        all_goals go_ret
        all_goals exact ⟨rfl, B0⟩
      | ok s0 =>
        have HR := Lib.hid hR
        obtain ⟨S, hS⟩ : ∃ S, S = ofL s0 := ⟨_, rfl⟩
        have hSs : S.size ≤ 20000 := by rw [hS, ofL_size]; exact (encd_ok hR).2
        have HS := Lib.hid hS
        clear hR hS
        by_cases hc1 : cut < 0
        · by_cases hM0 : M.size = 0
          · have hM3 : M.toList = [] := by rw [ByteArray.toList_eq]; exact List.eq_nil_of_length_eq_zero (by simpa using hM0)
            clear hM0
            go_enter Tryd.func6, Tryd.ntmps6
            go_wp2_with (first | (go_at_call 14; (with_reducible refine (small_walk _ _ _ hx).mono ?_); rw [HZ.out]; rintro e w1 ⟨rfl, bb⟩; have hx := hx.below bb; have qa := qa.below bb; have qa_0 := qa.1; have qa_1 := qa.2.1; have qa_2 := qa.2.2.1; have HT := Lib.hid (HT.out.below bb); have B0 := B0.trans (bb.mono B0.size); clear bb) | (go_at_call 15; (with_reducible refine (encode_c hx Hz.out HT.out).mono ?_); rw [HR.out]; rintro e w2 ⟨te, er, rfl, bb, he, hte⟩; subst he; rw [← HS.out] at hte; subst hte; have hx := hx.below bb; have qa := qa.below bb; have qa_0 := qa.1; have qa_1 := qa.2.1; have qa_2 := qa.2.2.1; have HT := Lib.hid (HT.out.below bb); have B0 := B0.trans (bb.mono B0.size); clear bb) | (go_at_call 10; (with_reducible refine (example_walk _ HT.out).mono ?_); rintro e w9 ⟨rfl, bb⟩; have HT := Lib.hid (HT.out.below bb); have B0 := B0.trans (bb.mono B0.size); clear bb))
            all_goals go_ret
            all_goals exact ⟨rfl, B0⟩
          · have hM3 : ¬ M.toList = [] := by rw [ByteArray.toList_eq]; exact fun e => hM0 (by have := congrArg List.length e; simpa using this)
            by_cases hM4 : 20000 < S.size + M.size
            · clear hM0
              go_enter Tryd.func6, Tryd.ntmps6
              go_wp2_with (first | (go_at_call 14; (with_reducible refine (small_walk _ _ _ hx).mono ?_); rw [HZ.out]; rintro e w1 ⟨rfl, bb⟩; have hx := hx.below bb; have qa := qa.below bb; have qa_0 := qa.1; have qa_1 := qa.2.1; have qa_2 := qa.2.2.1; have HT := Lib.hid (HT.out.below bb); have B0 := B0.trans (bb.mono B0.size); clear bb) | (go_at_call 15; (with_reducible refine (encode_c hx Hz.out HT.out).mono ?_); rw [HR.out]; rintro e w2 ⟨te, er, rfl, bb, he, hte⟩; subst he; rw [← HS.out] at hte; subst hte; have hx := hx.below bb; have qa := qa.below bb; have qa_0 := qa.1; have qa_1 := qa.2.1; have qa_2 := qa.2.2.1; have HT := Lib.hid (HT.out.below bb); have B0 := B0.trans (bb.mono B0.size); clear bb) | (go_at_call 10; (with_reducible refine (example_walk _ HT.out).mono ?_); rintro e w9 ⟨rfl, bb⟩; have HT := Lib.hid (HT.out.below bb); have B0 := B0.trans (bb.mono B0.size); clear bb))
              all_goals go_ret
              all_goals exact ⟨rfl, B0⟩
            · have HM := Lib.hid (more_err HR.out HS.out hM0 (by omega))
              have HM2 : Hid ((S ++ M).size ≤ 140737488351232) := by show _ ≤ _; rw [ByteArray.size_append]; omega
              clear hM0
              go_enter Tryd.func6, Tryd.ntmps6
              go_wp2_with (first | (go_at_call 14; (with_reducible refine (small_walk _ _ _ hx).mono ?_); rw [HZ.out]; rintro e w1 ⟨rfl, bb⟩; have hx := hx.below bb; have qa := qa.below bb; have qa_0 := qa.1; have qa_1 := qa.2.1; have qa_2 := qa.2.2.1; have HT := Lib.hid (HT.out.below bb); have B0 := B0.trans (bb.mono B0.size); clear bb) | (go_at_call 15; (with_reducible refine (encode_c hx Hz.out HT.out).mono ?_); rw [HR.out]; rintro e w2 ⟨te, er, rfl, bb, he, hte⟩; subst he; rw [← HS.out] at hte; subst hte; have hx := hx.below bb; have qa := qa.below bb; have qa_0 := qa.1; have qa_1 := qa.2.1; have qa_2 := qa.2.2.1; have HT := Lib.hid (HT.out.below bb); have B0 := B0.trans (bb.mono B0.size); clear bb) | (go_at_call 11; (with_reducible refine (decode_c _ _ HM2.out).mono ?_); rw [HM.out]; rintro e w4 ⟨l2, t2, A2, m2, c2, er2, rfl, bb, hR⟩; obtain ⟨rfl, rfl, rfl, rfl, rfl, rfl⟩ := hR; have HT := Lib.hid (HT.out.below bb); have B0 := B0.trans (bb.mono B0.size); clear bb; have HT := Lib.hid (HT.out.below (up_1 _ (.cells #[.bool false, .string ⟨#[]⟩, .slice none 0 0] 25))); have q2 := Bn.new w4 (.bool false) (.string ⟨#[]⟩) (.slice none 0 0) 25; have B0 := B0.alloc B0.size (.cells #[.bool false, .string ⟨#[]⟩, .slice none 0 0] 25); have q2_0 := q2.1; have q2_1 := q2.2.1; have q2_2 := q2.2.2.1) | (go_at_call 10; (with_reducible refine (example_walk _ HT.out).mono ?_); rintro e w9 ⟨rfl, bb⟩; have HT := Lib.hid (HT.out.below bb); have B0 := B0.trans (bb.mono B0.size); clear bb))
              all_goals go_ret
              all_goals exact ⟨rfl, B0⟩
        · obtain ⟨C, rfl⟩ : ∃ C : Nat, cut = (C : Int) := ⟨cut.toNat, by omega⟩
          by_cases hc2 : C < S.size
          · have HC := Lib.hid (cut_err HR.out HS.out hc2)
            have HC2 : Hid ((S.extract 0 C).size ≤ 140737488351232) := by show _ ≤ _; rw [ByteArray.size_extract]; omega
            by_cases hM0 : M.size = 0
            · have hM3 : M.toList = [] := by rw [ByteArray.toList_eq]; exact List.eq_nil_of_length_eq_zero (by simpa using hM0)
              clear hM0
              go_enter Tryd.func6, Tryd.ntmps6
              go_wp2_with (first | (go_at_call 14; (with_reducible refine (small_walk _ _ _ hx).mono ?_); rw [HZ.out]; rintro e w1 ⟨rfl, bb⟩; have hx := hx.below bb; have qa := qa.below bb; have qa_0 := qa.1; have qa_1 := qa.2.1; have qa_2 := qa.2.2.1; have HT := Lib.hid (HT.out.below bb); have B0 := B0.trans (bb.mono B0.size); clear bb) | (go_at_call 15; (with_reducible refine (encode_c hx Hz.out HT.out).mono ?_); rw [HR.out]; rintro e w2 ⟨te, er, rfl, bb, he, hte⟩; subst he; rw [← HS.out] at hte; subst hte; have hx := hx.below bb; have qa := qa.below bb; have qa_0 := qa.1; have qa_1 := qa.2.1; have qa_2 := qa.2.2.1; have HT := Lib.hid (HT.out.below bb); have B0 := B0.trans (bb.mono B0.size); clear bb) | (go_at_call 11; (with_reducible refine (decode_c _ _ HC2.out).mono ?_); rw [HC.out]; rintro e w3 ⟨l1, t1, A1, m1, c1, er1, rfl, bb, hR⟩; obtain ⟨rfl, rfl, rfl, rfl, rfl, rfl⟩ := hR; have HT := Lib.hid (HT.out.below bb); have B0 := B0.trans (bb.mono B0.size); clear bb; have HT := Lib.hid (HT.out.below (up_1 _ (.cells #[.bool false, .string ⟨#[]⟩, .slice none 0 0] 25))); have q1 := Bn.new w3 (.bool false) (.string ⟨#[]⟩) (.slice none 0 0) 25; have B0 := B0.alloc B0.size (.cells #[.bool false, .string ⟨#[]⟩, .slice none 0 0] 25); have q1_0 := q1.1; have q1_1 := q1.2.1; have q1_2 := q1.2.2.1) | (go_at_call 10; (with_reducible refine (example_walk _ HT.out).mono ?_); rintro e w9 ⟨rfl, bb⟩; have HT := Lib.hid (HT.out.below bb); have B0 := B0.trans (bb.mono B0.size); clear bb))
              all_goals go_ret
              all_goals exact ⟨rfl, B0⟩
            · have hM3 : ¬ M.toList = [] := by rw [ByteArray.toList_eq]; exact fun e => hM0 (by have := congrArg List.length e; simpa using this)
              by_cases hM4 : 20000 < S.size + M.size
              · clear hM0
                go_enter Tryd.func6, Tryd.ntmps6
                go_wp2_with (first | (go_at_call 14; (with_reducible refine (small_walk _ _ _ hx).mono ?_); rw [HZ.out]; rintro e w1 ⟨rfl, bb⟩; have hx := hx.below bb; have qa := qa.below bb; have qa_0 := qa.1; have qa_1 := qa.2.1; have qa_2 := qa.2.2.1; have HT := Lib.hid (HT.out.below bb); have B0 := B0.trans (bb.mono B0.size); clear bb) | (go_at_call 15; (with_reducible refine (encode_c hx Hz.out HT.out).mono ?_); rw [HR.out]; rintro e w2 ⟨te, er, rfl, bb, he, hte⟩; subst he; rw [← HS.out] at hte; subst hte; have hx := hx.below bb; have qa := qa.below bb; have qa_0 := qa.1; have qa_1 := qa.2.1; have qa_2 := qa.2.2.1; have HT := Lib.hid (HT.out.below bb); have B0 := B0.trans (bb.mono B0.size); clear bb) | (go_at_call 11; (with_reducible refine (decode_c _ _ HC2.out).mono ?_); rw [HC.out]; rintro e w3 ⟨l1, t1, A1, m1, c1, er1, rfl, bb, hR⟩; obtain ⟨rfl, rfl, rfl, rfl, rfl, rfl⟩ := hR; have HT := Lib.hid (HT.out.below bb); have B0 := B0.trans (bb.mono B0.size); clear bb; have HT := Lib.hid (HT.out.below (up_1 _ (.cells #[.bool false, .string ⟨#[]⟩, .slice none 0 0] 25))); have q1 := Bn.new w3 (.bool false) (.string ⟨#[]⟩) (.slice none 0 0) 25; have B0 := B0.alloc B0.size (.cells #[.bool false, .string ⟨#[]⟩, .slice none 0 0] 25); have q1_0 := q1.1; have q1_1 := q1.2.1; have q1_2 := q1.2.2.1) | (go_at_call 10; (with_reducible refine (example_walk _ HT.out).mono ?_); rintro e w9 ⟨rfl, bb⟩; have HT := Lib.hid (HT.out.below bb); have B0 := B0.trans (bb.mono B0.size); clear bb))
                all_goals go_ret
                all_goals exact ⟨rfl, B0⟩
              · have HM := Lib.hid (more_err HR.out HS.out hM0 (by omega))
                have HM2 : Hid ((S ++ M).size ≤ 140737488351232) := by show _ ≤ _; rw [ByteArray.size_append]; omega
                clear hM0
                go_enter Tryd.func6, Tryd.ntmps6
                go_wp2_with (first | (go_at_call 14; (with_reducible refine (small_walk _ _ _ hx).mono ?_); rw [HZ.out]; rintro e w1 ⟨rfl, bb⟩; have hx := hx.below bb; have qa := qa.below bb; have qa_0 := qa.1; have qa_1 := qa.2.1; have qa_2 := qa.2.2.1; have HT := Lib.hid (HT.out.below bb); have B0 := B0.trans (bb.mono B0.size); clear bb) | (go_at_call 15; (with_reducible refine (encode_c hx Hz.out HT.out).mono ?_); rw [HR.out]; rintro e w2 ⟨te, er, rfl, bb, he, hte⟩; subst he; rw [← HS.out] at hte; subst hte; have hx := hx.below bb; have qa := qa.below bb; have qa_0 := qa.1; have qa_1 := qa.2.1; have qa_2 := qa.2.2.1; have HT := Lib.hid (HT.out.below bb); have B0 := B0.trans (bb.mono B0.size); clear bb) | (go_at_call 11; (with_reducible refine (decode_c _ _ HC2.out).mono ?_); rw [HC.out]; rintro e w3 ⟨l1, t1, A1, m1, c1, er1, rfl, bb, hR⟩; obtain ⟨rfl, rfl, rfl, rfl, rfl, rfl⟩ := hR; have HT := Lib.hid (HT.out.below bb); have B0 := B0.trans (bb.mono B0.size); clear bb; have HT := Lib.hid (HT.out.below (up_1 _ (.cells #[.bool false, .string ⟨#[]⟩, .slice none 0 0] 25))); have q1 := Bn.new w3 (.bool false) (.string ⟨#[]⟩) (.slice none 0 0) 25; have B0 := B0.alloc B0.size (.cells #[.bool false, .string ⟨#[]⟩, .slice none 0 0] 25); have q1_0 := q1.1; have q1_1 := q1.2.1; have q1_2 := q1.2.2.1) | (go_at_call 11; (with_reducible refine (decode_c _ _ HM2.out).mono ?_); rw [HM.out]; rintro e w4 ⟨l2, t2, A2, m2, c2, er2, rfl, bb, hR⟩; obtain ⟨rfl, rfl, rfl, rfl, rfl, rfl⟩ := hR; have HT := Lib.hid (HT.out.below bb); have B0 := B0.trans (bb.mono B0.size); clear bb; have HT := Lib.hid (HT.out.below (up_1 _ (.cells #[.bool false, .string ⟨#[]⟩, .slice none 0 0] 25))); have q2 := Bn.new w4 (.bool false) (.string ⟨#[]⟩) (.slice none 0 0) 25; have B0 := B0.alloc B0.size (.cells #[.bool false, .string ⟨#[]⟩, .slice none 0 0] 25); have q2_0 := q2.1; have q2_1 := q2.2.1; have q2_2 := q2.2.2.1) | (go_at_call 10; (with_reducible refine (example_walk _ HT.out).mono ?_); rintro e w9 ⟨rfl, bb⟩; have HT := Lib.hid (HT.out.below bb); have B0 := B0.trans (bb.mono B0.size); clear bb))
                all_goals go_ret
                all_goals exact ⟨rfl, B0⟩
          · by_cases hM0 : M.size = 0
            · have hM3 : M.toList = [] := by rw [ByteArray.toList_eq]; exact List.eq_nil_of_length_eq_zero (by simpa using hM0)
              clear hM0
              go_enter Tryd.func6, Tryd.ntmps6
              go_wp2_with (first | (go_at_call 14; (with_reducible refine (small_walk _ _ _ hx).mono ?_); rw [HZ.out]; rintro e w1 ⟨rfl, bb⟩; have hx := hx.below bb; have qa := qa.below bb; have qa_0 := qa.1; have qa_1 := qa.2.1; have qa_2 := qa.2.2.1; have HT := Lib.hid (HT.out.below bb); have B0 := B0.trans (bb.mono B0.size); clear bb) | (go_at_call 15; (with_reducible refine (encode_c hx Hz.out HT.out).mono ?_); rw [HR.out]; rintro e w2 ⟨te, er, rfl, bb, he, hte⟩; subst he; rw [← HS.out] at hte; subst hte; have hx := hx.below bb; have qa := qa.below bb; have qa_0 := qa.1; have qa_1 := qa.2.1; have qa_2 := qa.2.2.1; have HT := Lib.hid (HT.out.below bb); have B0 := B0.trans (bb.mono B0.size); clear bb) | (go_at_call 10; (with_reducible refine (example_walk _ HT.out).mono ?_); rintro e w9 ⟨rfl, bb⟩; have HT := Lib.hid (HT.out.below bb); have B0 := B0.trans (bb.mono B0.size); clear bb))
              all_goals go_ret
              all_goals exact ⟨rfl, B0⟩
            · have hM3 : ¬ M.toList = [] := by rw [ByteArray.toList_eq]; exact fun e => hM0 (by have := congrArg List.length e; simpa using this)
              by_cases hM4 : 20000 < S.size + M.size
              · clear hM0
                go_enter Tryd.func6, Tryd.ntmps6
                go_wp2_with (first | (go_at_call 14; (with_reducible refine (small_walk _ _ _ hx).mono ?_); rw [HZ.out]; rintro e w1 ⟨rfl, bb⟩; have hx := hx.below bb; have qa := qa.below bb; have qa_0 := qa.1; have qa_1 := qa.2.1; have qa_2 := qa.2.2.1; have HT := Lib.hid (HT.out.below bb); have B0 := B0.trans (bb.mono B0.size); clear bb) | (go_at_call 15; (with_reducible refine (encode_c hx Hz.out HT.out).mono ?_); rw [HR.out]; rintro e w2 ⟨te, er, rfl, bb, he, hte⟩; subst he; rw [← HS.out] at hte; subst hte; have hx := hx.below bb; have qa := qa.below bb; have qa_0 := qa.1; have qa_1 := qa.2.1; have qa_2 := qa.2.2.1; have HT := Lib.hid (HT.out.below bb); have B0 := B0.trans (bb.mono B0.size); clear bb) | (go_at_call 10; (with_reducible refine (example_walk _ HT.out).mono ?_); rintro e w9 ⟨rfl, bb⟩; have HT := Lib.hid (HT.out.below bb); have B0 := B0.trans (bb.mono B0.size); clear bb))
                all_goals go_ret
                all_goals exact ⟨rfl, B0⟩
              · have HM := Lib.hid (more_err HR.out HS.out hM0 (by omega))
                have HM2 : Hid ((S ++ M).size ≤ 140737488351232) := by show _ ≤ _; rw [ByteArray.size_append]; omega
                clear hM0
                go_enter Tryd.func6, Tryd.ntmps6
                go_wp2_with (first | (go_at_call 14; (with_reducible refine (small_walk _ _ _ hx).mono ?_); rw [HZ.out]; rintro e w1 ⟨rfl, bb⟩; have hx := hx.below bb; have qa := qa.below bb; have qa_0 := qa.1; have qa_1 := qa.2.1; have qa_2 := qa.2.2.1; have HT := Lib.hid (HT.out.below bb); have B0 := B0.trans (bb.mono B0.size); clear bb) | (go_at_call 15; (with_reducible refine (encode_c hx Hz.out HT.out).mono ?_); rw [HR.out]; rintro e w2 ⟨te, er, rfl, bb, he, hte⟩; subst he; rw [← HS.out] at hte; subst hte; have hx := hx.below bb; have qa := qa.below bb; have qa_0 := qa.1; have qa_1 := qa.2.1; have qa_2 := qa.2.2.1; have HT := Lib.hid (HT.out.below bb); have B0 := B0.trans (bb.mono B0.size); clear bb) | (go_at_call 11; (with_reducible refine (decode_c _ _ HM2.out).mono ?_); rw [HM.out]; rintro e w4 ⟨l2, t2, A2, m2, c2, er2, rfl, bb, hR⟩; obtain ⟨rfl, rfl, rfl, rfl, rfl, rfl⟩ := hR; have HT := Lib.hid (HT.out.below bb); have B0 := B0.trans (bb.mono B0.size); clear bb; have HT := Lib.hid (HT.out.below (up_1 _ (.cells #[.bool false, .string ⟨#[]⟩, .slice none 0 0] 25))); have q2 := Bn.new w4 (.bool false) (.string ⟨#[]⟩) (.slice none 0 0) 25; have B0 := B0.alloc B0.size (.cells #[.bool false, .string ⟨#[]⟩, .slice none 0 0] 25); have q2_0 := q2.1; have q2_1 := q2.2.1; have q2_2 := q2.2.2.1) | (go_at_call 10; (with_reducible refine (example_walk _ HT.out).mono ?_); rintro e w9 ⟨rfl, bb⟩; have HT := Lib.hid (HT.out.below bb); have B0 := B0.trans (bb.mono B0.size); clear bb))
                all_goals go_ret
                all_goals exact ⟨rfl, B0⟩
  · have HZ : Hid (decide (size (.mk l t k) ≤ 21000) = false) := decide_eq_false hz
    clear hz
    go_enter Tryd.func6, Tryd.ntmps6
    go_wp2_with (first | (go_at_call 14; (with_reducible refine (small_walk _ _ _ hx).mono ?_); rw [HZ.out]; rintro e w1 ⟨rfl, bb⟩; have hx := hx.below bb; have qa := qa.below bb; have qa_0 := qa.1; have qa_1 := qa.2.1; have qa_2 := qa.2.2.1; have HT := Lib.hid (HT.out.below bb); have B0 := B0.trans (bb.mono B0.size); clear bb) | (go_at_call 10; (with_reducible refine (example_walk _ HT.out).mono ?_); rintro e w9 ⟨rfl, bb⟩; have HT := Lib.hid (HT.out.below bb); have B0 := B0.trans (bb.mono B0.size); clear bb))
    all_goals go_ret
    all_goals exact ⟨rfl, B0⟩
end Go.Proofs.YtmklladpalcjpaaDoor
