/-
  The walk of garmentlaw07.DigestReads.
-/
import Derived.Test.YtlinmhmhgnhmeaaDigA
namespace Go.Proofs.Ytlinmhmhgnhmeaa
open Go.RowKit Dig
set_option linter.unusedVariables false
set_option maxRecDepth 20000 in
set_option maxHeartbeats 2000000 in
theorem lawdigestreads_walk (w : World) (D : Nat) (hD : D < 18446744073709551616) (s : ByteArray) (hs : s.size ≤ 9223372036854775807) (ht : Dt w) : Calls Try.prog 9 #[.int .u64 (D : Int), .string s] w (BoolAnd true w) := by
  have B0 := Below.refl w.heap.size w
  have HT := Lib.hid ht
  clear ht
  by_cases hbig : 100 < s.size
  · go_enter Try.func9, Try.ntmps9
    go_wp2_with (first | (go_at_call 11; (with_reducible refine (alive_walk _ HT.out).mono ?_); rintro e w9 ⟨rfl, bb⟩; have HT := Lib.hid (HT.out.below bb); have B0 := B0.trans (bb.mono B0.size); clear bb))
    all_goals go_ret
    all_goals exact ⟨rfl, B0⟩
  · obtain ⟨X, hX⟩ : ∃ X, hx D = X := ⟨_, rfl⟩
    have hXs : (ofL X).size = 16 := by rw [← hX, ofL_size]; exact hxn_length 16 D
    have hpx := px_hx D hD
    rw [hX] at hpx
    have HH := Lib.hid hX
    have HD := Lib.hid hD
    clear hX hD
    by_cases hP : D < 2305843009213693951
    · have HPX : Hid (px (ofL X).data.toList = .ok D) := hpx.trans (if_pos (by rw [P_eq]; exact hP))
      have hP1 : ((D : Int) < 2305843009213693951) = True := eq_true (by omega)
      have hP2 : ((2305843009213693951 : Int) ≤ (D : Int)) = False := eq_false (by omega)
      clear hpx hP
      cases hp : px s.data.toList with
      | ok b =>
        have hbb := px_ok hp
        have HB := Lib.hid hbb.2
        have hb : b < 2305843009213693951 := by rw [← P_eq]; exact hbb.1
        have hbP : ((b : Int) < 2305843009213693951) = True := eq_true (by omega)
        have HB2 := Lib.hid (lt64 hb)
        clear hb
        have hstr : ((ofL s.data.toList).toList == s.toList) = true := by rw [ofL_eq]; simp
        have HX := Lib.hid hp
        clear hp hbb
        go_enter Try.func9, Try.ntmps9
        go_wp2_with (first | (go_at_call 23; (with_reducible refine (hex_c D _ HT.out HD.out).mono ?_); rw [HH.out]; rintro e w1 ⟨rfl, bb⟩; have HT := Lib.hid (HT.out.below bb); have B0 := B0.trans (bb.mono B0.size); clear bb) | (go_at_call 21; (with_reducible refine (parse_c (ofL X) _ HT.out (by omega)).mono ?_); rw [HPX.out]; rintro e w2 ⟨d1, er1, rfl, bb, h1⟩; obtain ⟨rfl, rfl⟩ := h1; have HT := Lib.hid (HT.out.below bb); have B0 := B0.trans (bb.mono B0.size); clear bb) | (go_at_call 21; (with_reducible refine (parse_c s _ HT.out (by omega)).mono ?_); rw [HX.out]; rintro e w3 ⟨d2, er2, rfl, bb, h2⟩; obtain ⟨rfl, hq⟩ := h2; have hq2 := hq.symm; subst hq2; have HT := Lib.hid (HT.out.below bb); have B0 := B0.trans (bb.mono B0.size); clear bb) | (go_at_call 23; (with_reducible refine (hex_c b _ HT.out HB2.out).mono ?_); rw [HB.out]; rintro e w4 ⟨rfl, bb⟩; have HT := Lib.hid (HT.out.below bb); have B0 := B0.trans (bb.mono B0.size); clear bb) | (go_at_call 11; (with_reducible refine (alive_walk _ HT.out).mono ?_); rintro e w9 ⟨rfl, bb⟩; have HT := Lib.hid (HT.out.below bb); have B0 := B0.trans (bb.mono B0.size); clear bb))
        all_goals go_ret
        all_goals exact ⟨rfl, B0⟩
      | error y =>
        have hy : ((y : Int) != 0) = true := by have := px_bad hp; simp; omega
        have HX := Lib.hid hp
        clear hp
        go_enter Try.func9, Try.ntmps9
        go_wp2_with (first | (go_at_call 23; (with_reducible refine (hex_c D _ HT.out HD.out).mono ?_); rw [HH.out]; rintro e w1 ⟨rfl, bb⟩; have HT := Lib.hid (HT.out.below bb); have B0 := B0.trans (bb.mono B0.size); clear bb) | (go_at_call 21; (with_reducible refine (parse_c (ofL X) _ HT.out (by omega)).mono ?_); rw [HPX.out]; rintro e w2 ⟨d1, er1, rfl, bb, h1⟩; obtain ⟨rfl, rfl⟩ := h1; have HT := Lib.hid (HT.out.below bb); have B0 := B0.trans (bb.mono B0.size); clear bb) | (go_at_call 21; (with_reducible refine (parse_c s _ HT.out (by omega)).mono ?_); rw [HX.out]; rintro e w3 ⟨d2, er2, rfl, bb, h2⟩; obtain ⟨rfl, hq⟩ := h2; have hq2 := hq.symm; subst hq2; have HT := Lib.hid (HT.out.below bb); have B0 := B0.trans (bb.mono B0.size); clear bb) | (go_at_call 11; (with_reducible refine (alive_walk _ HT.out).mono ?_); rintro e w9 ⟨rfl, bb⟩; have HT := Lib.hid (HT.out.below bb); have B0 := B0.trans (bb.mono B0.size); clear bb))
        all_goals go_ret
        all_goals exact ⟨rfl, B0⟩
    · have HPX : Hid (px (ofL X).data.toList = .error 3) := hpx.trans (if_neg (by rw [P_eq]; exact hP))
      have hP1 : ((D : Int) < 2305843009213693951) = False := eq_false (by omega)
      have hP2 : ((2305843009213693951 : Int) ≤ (D : Int)) = True := eq_true (by omega)
      clear hpx hP
      cases hp : px s.data.toList with
      | ok b =>
        have hbb := px_ok hp
        have HB := Lib.hid hbb.2
        have hb : b < 2305843009213693951 := by rw [← P_eq]; exact hbb.1
        have hbP : ((b : Int) < 2305843009213693951) = True := eq_true (by omega)
        have HB2 := Lib.hid (lt64 hb)
        clear hb
        have hstr : ((ofL s.data.toList).toList == s.toList) = true := by rw [ofL_eq]; simp
        have HX := Lib.hid hp
        clear hp hbb
        go_enter Try.func9, Try.ntmps9
        go_wp2_with (first | (go_at_call 23; (with_reducible refine (hex_c D _ HT.out HD.out).mono ?_); rw [HH.out]; rintro e w1 ⟨rfl, bb⟩; have HT := Lib.hid (HT.out.below bb); have B0 := B0.trans (bb.mono B0.size); clear bb) | (go_at_call 21; (with_reducible refine (parse_c (ofL X) _ HT.out (by omega)).mono ?_); rw [HPX.out]; rintro e w2 ⟨d1, er1, rfl, bb, h1⟩; obtain ⟨rfl, rfl⟩ := h1; have HT := Lib.hid (HT.out.below bb); have B0 := B0.trans (bb.mono B0.size); clear bb) | (go_at_call 21; (with_reducible refine (parse_c s _ HT.out (by omega)).mono ?_); rw [HX.out]; rintro e w3 ⟨d2, er2, rfl, bb, h2⟩; obtain ⟨rfl, hq⟩ := h2; have hq2 := hq.symm; subst hq2; have HT := Lib.hid (HT.out.below bb); have B0 := B0.trans (bb.mono B0.size); clear bb) | (go_at_call 23; (with_reducible refine (hex_c b _ HT.out HB2.out).mono ?_); rw [HB.out]; rintro e w4 ⟨rfl, bb⟩; have HT := Lib.hid (HT.out.below bb); have B0 := B0.trans (bb.mono B0.size); clear bb) | (go_at_call 11; (with_reducible refine (alive_walk _ HT.out).mono ?_); rintro e w9 ⟨rfl, bb⟩; have HT := Lib.hid (HT.out.below bb); have B0 := B0.trans (bb.mono B0.size); clear bb))
        all_goals go_ret
        all_goals exact ⟨rfl, B0⟩
      | error y =>
        have hy : ((y : Int) != 0) = true := by have := px_bad hp; simp; omega
        have HX := Lib.hid hp
        clear hp
        go_enter Try.func9, Try.ntmps9
        go_wp2_with (first | (go_at_call 23; (with_reducible refine (hex_c D _ HT.out HD.out).mono ?_); rw [HH.out]; rintro e w1 ⟨rfl, bb⟩; have HT := Lib.hid (HT.out.below bb); have B0 := B0.trans (bb.mono B0.size); clear bb) | (go_at_call 21; (with_reducible refine (parse_c (ofL X) _ HT.out (by omega)).mono ?_); rw [HPX.out]; rintro e w2 ⟨d1, er1, rfl, bb, h1⟩; obtain ⟨rfl, rfl⟩ := h1; have HT := Lib.hid (HT.out.below bb); have B0 := B0.trans (bb.mono B0.size); clear bb) | (go_at_call 21; (with_reducible refine (parse_c s _ HT.out (by omega)).mono ?_); rw [HX.out]; rintro e w3 ⟨d2, er2, rfl, bb, h2⟩; obtain ⟨rfl, hq⟩ := h2; have hq2 := hq.symm; subst hq2; have HT := Lib.hid (HT.out.below bb); have B0 := B0.trans (bb.mono B0.size); clear bb) | (go_at_call 11; (with_reducible refine (alive_walk _ HT.out).mono ?_); rintro e w9 ⟨rfl, bb⟩; have HT := Lib.hid (HT.out.below bb); have B0 := B0.trans (bb.mono B0.size); clear bb))
        all_goals go_ret
        all_goals exact ⟨rfl, B0⟩
end Go.Proofs.Ytlinmhmhgnhmeaa
