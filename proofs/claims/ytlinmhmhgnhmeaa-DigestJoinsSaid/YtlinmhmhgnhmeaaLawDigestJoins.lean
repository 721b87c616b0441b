/-
  The walk of garmentlaw07.DigestJoins.
-/
import Derived.Test.YtlinmhmhgnhmeaaDigA
namespace Go.Proofs.Ytlinmhmhgnhmeaa
open Go.RowKit Dig
set_option linter.unusedVariables false
set_option maxRecDepth 20000 in
set_option maxHeartbeats 2000000 in
theorem lawdigestjoins_walk (w : World) (s : ByteArray) (hs : s.size ≤ 9223372036854775807) (t : ByteArray) (ht2 : t.size ≤ 9223372036854775807) (u : ByteArray) (hu : u.size ≤ 9223372036854775807) (ht : Dt w) : Calls Try.prog 7 #[.string s, .string t, .string u] w (BoolAnd true w) := by
  have B0 := Below.refl w.heap.size w
  have HT := Lib.hid ht
  clear ht
  by_cases hbig : 1000 < s.size
  · go_enter Try.func7, Try.ntmps7
    go_wp2_with (first | (go_at_call 11; (with_reducible refine (alive_walk _ HT.out).mono ?_); rintro e w9 ⟨rfl, bb⟩; have HT := Lib.hid (HT.out.below bb); have B0 := B0.trans (bb.mono B0.size); clear bb))
    all_goals go_ret
    all_goals exact ⟨rfl, B0⟩
  · by_cases hbig2 : 1000 < t.size
    · go_enter Try.func7, Try.ntmps7
      go_wp2_with (first | (go_at_call 11; (with_reducible refine (alive_walk _ HT.out).mono ?_); rintro e w9 ⟨rfl, bb⟩; have HT := Lib.hid (HT.out.below bb); have B0 := B0.trans (bb.mono B0.size); clear bb))
      all_goals go_ret
      all_goals exact ⟨rfl, B0⟩
    · by_cases hbig3 : 1000 < u.size
      · go_enter Try.func7, Try.ntmps7
        go_wp2_with (first | (go_at_call 11; (with_reducible refine (alive_walk _ HT.out).mono ?_); rintro e w9 ⟨rfl, bb⟩; have HT := Lib.hid (HT.out.below bb); have B0 := B0.trans (bb.mono B0.size); clear bb))
        all_goals go_ret
        all_goals exact ⟨rfl, B0⟩
      · obtain ⟨a, ha⟩ : ∃ a, dg s.data.toList = a := ⟨_, rfl⟩
        obtain ⟨b, hb⟩ : ∃ b, dg t.data.toList = b := ⟨_, rfl⟩
        obtain ⟨c, hc⟩ : ∃ c, dg u.data.toList = c := ⟨_, rfl⟩
        have la : a < 18446744073709551616 := by rw [← ha]; exact lt64 (dg_lt _)
        have lb : b < 18446744073709551616 := by rw [← hb]; exact lt64 (dg_lt _)
        have lc : c < 18446744073709551616 := by rw [← hc]; exact lt64 (dg_lt _)
        obtain ⟨p, hp⟩ : ∃ p, jn a t.size b = p := ⟨_, rfl⟩
        obtain ⟨q, hq⟩ : ∃ q, jn b u.size c = q := ⟨_, rfl⟩
        obtain ⟨r, hr⟩ : ∃ r, jn p u.size c = r := ⟨_, rfl⟩
        obtain ⟨z, hz⟩ : ∃ z, jn a 0 b = z := ⟨_, rfl⟩
        have lp : p < 18446744073709551616 := by rw [← hp]; exact lt64 (jn_lt _ _ _)
        have lq : q < 18446744073709551616 := by rw [← hq]; exact lt64 (jn_lt _ _ _)
        have hst : dg (s ++ t).data.toList = p := by rw [data_app, dg_append, ha, hb, data_len, hp]
        have hstu : dg (s ++ t ++ u).data.toList = r := by rw [data_app, dg_append, hst, hc, data_len, hr]
        have hz2 : jn b 0 a = z := by rw [jn_comm, hz]
        have hr2 : jn a (t.size + u.size) q = r := by rw [← hq, ← jn_group, hp, hr]
        have n1 : (s ++ t).size ≤ 2000 := by rw [ByteArray.size_append]; omega
        have n2 : (s ++ t ++ u).size ≤ 3000 := by rw [ByteArray.size_append, ByteArray.size_append]; omega
        have HA := Lib.hid ha
        have HB := Lib.hid hb
        have HC := Lib.hid hc
        have HP : Hid (jn a ((t.size : Int)).toNat b = p) := hp
        have HQ : Hid (jn b ((u.size : Int)).toNat c = q) := hq
        have HR : Hid (jn p ((u.size : Int)).toNat c = r) := hr
        have HZ : Hid (jn a (0 : Int).toNat b = z) := hz
        have HZ2 : Hid (jn b (0 : Int).toNat a = z) := hz2
        have HR2 : Hid (jn a ((t.size : Int) + (u.size : Int)).toNat q = r) := by
          show _ = _
          rw [show ((t.size : Int) + (u.size : Int)).toNat = t.size + u.size by omega]
          exact hr2
        have HST := Lib.hid hst
        have HSTU := Lib.hid hstu
        clear ha hb hc hp hq hr hz hz2 hst hstu hr2
        go_enter Try.func7, Try.ntmps7
        go_wp2_with (first | (go_at_call 12; (with_reducible refine (of_c s _ HT.out (by omega)).mono ?_); rw [HA.out]; rintro e w1 ⟨rfl, bb⟩; have HT := Lib.hid (HT.out.below bb); have B0 := B0.trans (bb.mono B0.size); clear bb) | (go_at_call 12; (with_reducible refine (of_c t _ HT.out (by omega)).mono ?_); rw [HB.out]; rintro e w2 ⟨rfl, bb⟩; have HT := Lib.hid (HT.out.below bb); have B0 := B0.trans (bb.mono B0.size); clear bb) | (go_at_call 12; (with_reducible refine (of_c u _ HT.out (by omega)).mono ?_); rw [HC.out]; rintro e w3 ⟨rfl, bb⟩; have HT := Lib.hid (HT.out.below bb); have B0 := B0.trans (bb.mono B0.size); clear bb) | (go_at_call 12; (with_reducible refine (of_c (s ++ t) _ HT.out (by omega)).mono ?_); rw [HST.out]; rintro e w4 ⟨rfl, bb⟩; have HT := Lib.hid (HT.out.below bb); have B0 := B0.trans (bb.mono B0.size); clear bb) | (go_at_call 12; (with_reducible refine (of_c (s ++ t ++ u) _ HT.out (by omega)).mono ?_); rw [HSTU.out]; rintro e w5 ⟨rfl, bb⟩; have HT := Lib.hid (HT.out.below bb); have B0 := B0.trans (bb.mono B0.size); clear bb) | (go_at_call 14; (with_reducible refine (join_c a b (t.size : Int) _ HT.out la lb (by omega) (by omega)).mono ?_); rw [HP.out]; rintro e w6 ⟨rfl, bb⟩; have HT := Lib.hid (HT.out.below bb); have B0 := B0.trans (bb.mono B0.size); clear bb) | (go_at_call 14; (with_reducible refine (join_c b c (u.size : Int) _ HT.out lb lc (by omega) (by omega)).mono ?_); rw [HQ.out]; rintro e w7 ⟨rfl, bb⟩; have HT := Lib.hid (HT.out.below bb); have B0 := B0.trans (bb.mono B0.size); clear bb) | (go_at_call 14; (with_reducible refine (join_c p c (u.size : Int) _ HT.out lp lc (by omega) (by omega)).mono ?_); rw [HR.out]; rintro e w9 ⟨rfl, bb⟩; have HT := Lib.hid (HT.out.below bb); have B0 := B0.trans (bb.mono B0.size); clear bb) | (go_at_call 14; (with_reducible refine (join_c a b 0 _ HT.out la lb (by omega) (by omega)).mono ?_); rw [HZ.out]; rintro e w11 ⟨rfl, bb⟩; have HT := Lib.hid (HT.out.below bb); have B0 := B0.trans (bb.mono B0.size); clear bb) | (go_at_call 14; (with_reducible refine (join_c b a 0 _ HT.out lb la (by omega) (by omega)).mono ?_); rw [HZ2.out]; rintro e w10 ⟨rfl, bb⟩; have HT := Lib.hid (HT.out.below bb); have B0 := B0.trans (bb.mono B0.size); clear bb) | (go_at_call 14; (with_reducible refine (join_c a q ((t.size : Int) + (u.size : Int)) _ HT.out la lq (by omega) (by omega)).mono ?_); rw [HR2.out]; rintro e w8 ⟨rfl, bb⟩; have HT := Lib.hid (HT.out.below bb); have B0 := B0.trans (bb.mono B0.size); clear bb) | (go_at_call 11; (with_reducible refine (alive_walk _ HT.out).mono ?_); rintro e w9 ⟨rfl, bb⟩; have HT := Lib.hid (HT.out.below bb); have B0 := B0.trans (bb.mono B0.size); clear bb))
        all_goals go_ret
        all_goals exact ⟨rfl, B0⟩
end Go.Proofs.Ytlinmhmhgnhmeaa
