/-
  The walk of garmentlaw07.DigestTexts.
-/
import Derived.Test.YtlinmhmhgnhmeaaDigA
namespace Go.Proofs.Ytlinmhmhgnhmeaa
open Go.RowKit Dig
set_option linter.unusedVariables false
set_option maxRecDepth 20000 in
set_option maxHeartbeats 2000000 in
theorem lawdigesttexts_walk (w : World) (D : Nat) (hD : D < 18446744073709551616) (s : ByteArray) (hs : s.size ≤ 9223372036854775807) (ht : Dt w) : Calls Try.prog 5 #[.int .u64 (D : Int), .string s] w (BoolAnd true w) := by
  have B0 := Below.refl w.heap.size w
  have HT := Lib.hid ht
  clear ht
  by_cases hbig : 100 < s.size
  · go_enter Try.func5, Try.ntmps5
    go_wp2_with (first | (go_at_call 11; (with_reducible refine (alive_walk _ HT.out).mono ?_); rintro e w9 ⟨rfl, bb⟩; have HT := Lib.hid (HT.out.below bb); have B0 := B0.trans (bb.mono B0.size); clear bb))
    all_goals go_ret
    all_goals exact ⟨rfl, B0⟩
  · obtain ⟨X, hX⟩ : ∃ X, hx D = X := ⟨_, rfl⟩
    have HH := Lib.hid hX
    clear hX
    cases hp : px s.data.toList with
    | ok x =>
      have HX := Lib.hid hp
      clear hp
      go_enter Try.func5, Try.ntmps5
      go_wp2_with (first | (go_at_call 21; (with_reducible refine (parse_c s _ HT.out (by omega)).mono ?_); rw [HX.out]; rintro e w1 ⟨d1, er1, rfl, bb, h1⟩; obtain ⟨rfl, rfl⟩ := h1; have HT := Lib.hid (HT.out.below bb); have B0 := B0.trans (bb.mono B0.size); clear bb) | (go_at_call 22; (with_reducible refine (rparse_walk s _ (by omega)).mono ?_); rw [HX.out]; rintro e w2 ⟨d2, er2, rfl, bb, h2⟩; obtain ⟨rfl, rfl⟩ := h2; have HT := Lib.hid (HT.out.below bb); have B0 := B0.trans (bb.mono B0.size); clear bb) | (go_at_call 23; (with_reducible refine (hex_c D _ HT.out hD).mono ?_); rw [HH.out]; rintro e w3 ⟨rfl, bb⟩; have HT := Lib.hid (HT.out.below bb); have B0 := B0.trans (bb.mono B0.size); clear bb) | (go_at_call 24; (with_reducible refine (rhex_walk D _ hD).mono ?_); rw [HH.out]; rintro e w4 ⟨rfl, bb⟩; have HT := Lib.hid (HT.out.below bb); have B0 := B0.trans (bb.mono B0.size); clear bb) | (go_at_call 11; (with_reducible refine (alive_walk _ HT.out).mono ?_); rintro e w9 ⟨rfl, bb⟩; have HT := Lib.hid (HT.out.below bb); have B0 := B0.trans (bb.mono B0.size); clear bb))
      all_goals go_ret
      all_goals exact ⟨rfl, B0⟩
    | error x =>
      have HX := Lib.hid hp
      clear hp
      go_enter Try.func5, Try.ntmps5
      go_wp2_with (first | (go_at_call 21; (with_reducible refine (parse_c s _ HT.out (by omega)).mono ?_); rw [HX.out]; rintro e w1 ⟨d1, er1, rfl, bb, h1⟩; obtain ⟨rfl, rfl⟩ := h1; have HT := Lib.hid (HT.out.below bb); have B0 := B0.trans (bb.mono B0.size); clear bb) | (go_at_call 22; (with_reducible refine (rparse_walk s _ (by omega)).mono ?_); rw [HX.out]; rintro e w2 ⟨d2, er2, rfl, bb, h2⟩; obtain ⟨rfl, rfl⟩ := h2; have HT := Lib.hid (HT.out.below bb); have B0 := B0.trans (bb.mono B0.size); clear bb) | (go_at_call 23; (with_reducible refine (hex_c D _ HT.out hD).mono ?_); rw [HH.out]; rintro e w3 ⟨rfl, bb⟩; have HT := Lib.hid (HT.out.below bb); have B0 := B0.trans (bb.mono B0.size); clear bb) | (go_at_call 24; (with_reducible refine (rhex_walk D _ hD).mono ?_); rw [HH.out]; rintro e w4 ⟨rfl, bb⟩; have HT := Lib.hid (HT.out.below bb); have B0 := B0.trans (bb.mono B0.size); clear bb) | (go_at_call 11; (with_reducible refine (alive_walk _ HT.out).mono ?_); rintro e w9 ⟨rfl, bb⟩; have HT := Lib.hid (HT.out.below bb); have B0 := B0.trans (bb.mono B0.size); clear bb))
      all_goals go_ret
      all_goals exact ⟨rfl, B0⟩
end Go.Proofs.Ytlinmhmhgnhmeaa
