/-
  The walk of garmentlaw07.DigestDefines.
-/
import Derived.Test.YtlinmhmhgnhmeaaDigP
namespace Go.Proofs.Ytlinmhmhgnhmeaa
open Go.RowKit Dig
set_option linter.unusedVariables false
set_option maxRecDepth 20000 in
set_option maxHeartbeats 2000000 in
theorem lawdigestdefines_walk (w : World) (s : ByteArray) (hs : s.size ≤ 9223372036854775807) (a b : Nat) (n : Int) (ha : a < 18446744073709551616) (hb : b < 18446744073709551616) (hn : n ≤ 9223372036854775807) (hn2 : -9223372036854775808 ≤ n) (ht : Dt w) : Calls Try.prog 3 #[.string s, .agg #[.int .u64 (a : Int), .int .i64 n, .int .u64 (b : Int)]] w (BoolAnd true w) := by
  have B0 := Below.refl w.heap.size w
  have HT := Lib.hid ht
  clear ht
  have B0 := up_1 w (.cells #[.int .u64 (a : Int), .int .i64 n, .int .u64 (b : Int)] 24)
  have HT := Lib.hid (HT.out.below B0)
  have K := Bp.new w _ rfl a n b
  have k0 := K.1
  have k1 := K.2.1
  have k2 := K.2.2
  by_cases hbig : 2000 < s.size
  · go_enter Try.func3, Try.ntmps3
    go_wp2_with (first | (go_at_call 11; (with_reducible refine (alive_walk _ HT.out).mono ?_); rintro e w9 ⟨rfl, bb⟩; have HT := Lib.hid (HT.out.below bb); have B0 := B0.trans (bb.mono B0.size); have K := K.below bb; clear bb; have k0 := K.1; have k1 := K.2.1; have k2 := K.2.2))
    all_goals go_ret
    all_goals exact ⟨rfl, B0⟩
  · obtain ⟨d, hd⟩ : ∃ d, dg s.data.toList = d := ⟨_, rfl⟩
    obtain ⟨j, hj⟩ : ∃ j, jn a n.toNat b = j := ⟨_, rfl⟩
    obtain ⟨c, hc⟩ : ∃ c, ch a s.data.toList = c := ⟨_, rfl⟩
    have HD := Lib.hid hd
    have HJ := Lib.hid hj
    have HC := Lib.hid hc
    clear hd hj hc
    go_enter Try.func3, Try.ntmps3
    go_wp2_with fail
    have dr : ∀ W : World, Below W.heap.size W W.drew := fun W => (Below.refl _ _).drew
    have HT := Lib.hid (HT.out.below (dr _))
    have K := K.below (dr _)
    have B0 := B0.drew
    clear dr k0 k1 k2
    have k0 := K.1
    have k1 := K.2.1
    have k2 := K.2.2
    go_region_held3 (fun W => W.cell? ⟨w.heap.size, 0, none⟩ = some (.int .u64 (a : Int)) ∧ W.cell? ⟨w.heap.size, 1, none⟩ = some (.int .i64 n) ∧ W.cell? ⟨w.heap.size, 2, none⟩ = some (.int .u64 (b : Int))) (exact ⟨k0, k1, k2⟩)
      (first | (go_at_call 12; (with_reducible refine (of_c s _ HT.out (by omega)).mono ?_); rw [HD.out]; rintro e w1 ⟨rfl, bb⟩; have HT := Lib.hid (HT.out.below bb); have B0 := B0.trans (bb.mono B0.size); have K := K.below bb; clear bb; have k0 := K.1; have k1 := K.2.1; have k2 := K.2.2) | (go_at_call 13; (with_reducible refine (rof_walk s _ (by omega)).mono ?_); rw [HD.out]; rintro e w2 ⟨rfl, bb⟩; have HT := Lib.hid (HT.out.below bb); have B0 := B0.trans (bb.mono B0.size); have K := K.below bb; clear bb; have k0 := K.1; have k1 := K.2.1; have k2 := K.2.2) | (go_at_call 14; (with_reducible refine (join_c a b n _ HT.out ha hb hn hn2).mono ?_); rw [HJ.out]; rintro e w3 ⟨rfl, bb⟩; have HT := Lib.hid (HT.out.below bb); have B0 := B0.trans (bb.mono B0.size); have K := K.below bb; clear bb; have k0 := K.1; have k1 := K.2.1; have k2 := K.2.2) | (go_at_call 15; (with_reducible refine (rjoin_walk a b n _ hn hn2).mono ?_); rw [HJ.out]; rintro e w4 ⟨rfl, rfl⟩) | (go_at_call 16; (with_reducible refine (chain_c a s _ HT.out ha (by omega)).mono ?_); rw [HC.out]; rintro e w5 ⟨rfl, bb⟩; have HT := Lib.hid (HT.out.below bb); have B0 := B0.trans (bb.mono B0.size); have K := K.below bb; clear bb; have k0 := K.1; have k1 := K.2.1; have k2 := K.2.2) | (go_at_call 17; (with_reducible refine (rchain_walk a s _ (by omega)).mono ?_); rw [HC.out]; rintro e w6 ⟨rfl, bb⟩; have HT := Lib.hid (HT.out.below bb); have B0 := B0.trans (bb.mono B0.size); have K := K.below bb; clear bb; have k0 := K.1; have k1 := K.2.1; have k2 := K.2.2) | (go_at_call 11; (with_reducible refine (alive_walk _ HT.out).mono ?_); rintro e w9 ⟨rfl, bb⟩; have HT := Lib.hid (HT.out.below bb); have B0 := B0.trans (bb.mono B0.size); have K := K.below bb; clear bb; have k0 := K.1; have k1 := K.2.1; have k2 := K.2.2))
    all_goals go_wp2
    all_goals go_ret
    all_goals exact ⟨rfl, B0⟩
end Go.Proofs.Ytlinmhmhgnhmeaa
