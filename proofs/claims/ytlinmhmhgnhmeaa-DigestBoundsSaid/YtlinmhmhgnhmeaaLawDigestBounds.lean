/-
  The walk of garmentlaw07.DigestBounds.
-/
import Derived.Test.YtlinmhmhgnhmeaaDigP
import Derived.Laws.Cover1
namespace Go.Proofs.Ytlinmhmhgnhmeaa
open Go.RowKit Dig
set_option linter.unusedVariables false
set_option maxRecDepth 20000 in
set_option maxHeartbeats 2000000 in
theorem lawdigestbounds_walk (w : World) (s : ByteArray) (hs : s.size ≤ 9223372036854775807) (a b : Nat) (n : Int) (ha : a < 18446744073709551616) (hb : b < 18446744073709551616) (hn : n ≤ 9223372036854775807) (hn2 : -9223372036854775808 ≤ n) (ht : Dt w) : Calls Try.prog 10 #[.string s, .agg #[.int .u64 (a : Int), .int .i64 n, .int .u64 (b : Int)]] w (BoolAnd true w) := by
  have B0 := Below.refl w.heap.size w
  have HT := Lib.hid ht
  clear ht
  have B0 := up_1 w (.cells #[.int .u64 (a : Int), .int .i64 n, .int .u64 (b : Int)] 24)
  have HT := Lib.hid (HT.out.below B0)
  have K := Bp.new w _ rfl a n b
  have k0 := K.1
  have k1 := K.2.1
  have k2 := K.2.2
  by_cases hbig : 2000 < s.size
  · go_enter Try.func10, Try.ntmps10
    go_wp2_with (first | (go_at_call 11; (with_reducible refine (alive_walk _ HT.out).mono ?_); rintro e w9 ⟨rfl, bb⟩; have HT := Lib.hid (HT.out.below bb); have B0 := B0.trans (bb.mono B0.size); have K := K.below bb; clear bb; have k0 := K.1; have k1 := K.2.1; have k2 := K.2.2))
    all_goals go_ret
    all_goals exact ⟨rfl, B0⟩
  · obtain ⟨d, hd⟩ : ∃ d, dg s.data.toList = d := ⟨_, rfl⟩
    obtain ⟨j, hj⟩ : ∃ j, jn a n.toNat b = j := ⟨_, rfl⟩
    obtain ⟨c, hc⟩ : ∃ c, ch a s.data.toList = c := ⟨_, rfl⟩
    have ld : d < 2305843009213693951 := by rw [← hd]; exact dg_lt _
    have lj : j < 2305843009213693951 := by rw [← hj]; exact jn_lt _ _ _
    have hP1 : ((d : Int) < 2305843009213693951) = True := eq_true (by omega)
    have hP2 : ((j : Int) < 2305843009213693951) = True := eq_true (by omega)
    have HD := Lib.hid hd
    have HJ := Lib.hid hj
    have HC := Lib.hid hc
    obtain ⟨m, hm⟩ : ∃ m : Int, max n 0 = m := ⟨_, rfl⟩
    have hmt : m.toNat = n.toNat := by omega
    have hm1 : m ≤ 9223372036854775807 := by omega
    have hm2 : -9223372036854775808 ≤ m := by omega
    have hmx : (if n < 0 then (0 : Int) else n) = m := by
      split <;> omega
    have HJ2 : Hid (jn (a % P) m.toNat (b % P) = j) := by
      show _ = _
      rw [jn_mod, hmt, hj]
    have HC2 : Hid (ch (a % P) s.data.toList = c) := by
      show _ = _
      rw [ch_mod, hc]
    have m1 : ((a : Nat) : Int) % 2305843009213693951 = ((a % P : Nat) : Int) := modP a
    have m2 : ((b : Nat) : Int) % 2305843009213693951 = ((b % P : Nat) : Int) := modP b
    have t1 : ((a : Nat) : Int).tmod 2305843009213693951 = ((a % P : Nat) : Int) := by rw [Int.tmod_eq_emod_of_nonneg (by omega)]; exact m1
    have t2 : ((b : Nat) : Int).tmod 2305843009213693951 = ((b % P : Nat) : Int) := by rw [Int.tmod_eq_emod_of_nonneg (by omega)]; exact m2
    have p1 := lt64 (P_le a)
    have p2 := lt64 (P_le b)
    obtain ⟨a', ha'⟩ : ∃ a', a % P = a' := ⟨_, rfl⟩
    obtain ⟨b', hb'⟩ : ∃ b', b % P = b' := ⟨_, rfl⟩
    rw [ha'] at m1 t1 p1 HJ2 HC2
    rw [hb'] at m2 t2 p2 HJ2
    have HLJ : Hid (j < P) := by rw [P_eq]; exact lj
    have HN := Lib.hid (And.intro hm1 hm2)
    have HA := Lib.hid (And.intro ha hb)
    have HPP := Lib.hid (And.intro p1 p2)
    have HNN := Lib.hid (And.intro hn hn2)
    clear hd hj hc ha' hb' hmt ld lj hm1 hm2 ha hb p1 p2 hn hn2
    go_enter Try.func10, Try.ntmps10
    go_wp2_with (first | (go_at_call 14; (with_reducible refine (join_c a b n _ HT.out HA.out.1 HA.out.2 HNN.out.1 HNN.out.2).mono ?_); rw [HJ.out]; rintro e w3 ⟨rfl, bb⟩; have HT := Lib.hid (HT.out.below bb); have B0 := B0.trans (bb.mono B0.size); have K := K.below bb; clear bb; have k0 := K.1; have k1 := K.2.1; have k2 := K.2.2))
    have dr : ∀ W : World, Below W.heap.size W W.drew := fun W => (Below.refl _ _).drew
    have HT := Lib.hid (HT.out.below (dr _))
    have K := K.below (dr _)
    have B0 := B0.drew
    clear dr k0 k1 k2
    have k0 := K.1
    have k1 := K.2.1
    have k2 := K.2.2
    go_region_held3 (fun W => W.cell? ⟨w.heap.size, 0, none⟩ = some (.int .u64 (a : Int)) ∧ W.cell? ⟨w.heap.size, 1, none⟩ = some (.int .i64 n) ∧ W.cell? ⟨w.heap.size, 2, none⟩ = some (.int .u64 (b : Int))) (exact ⟨k0, k1, k2⟩)
      (first | (go_at_call 12; (with_reducible refine (of_c s _ HT.out (by omega)).mono ?_); rw [HD.out]; rintro e w1 ⟨rfl, bb⟩; have HT := Lib.hid (HT.out.below bb); have B0 := B0.trans (bb.mono B0.size); have K := K.below bb; clear bb; have k0 := K.1; have k1 := K.2.1; have k2 := K.2.2) | (go_at_call 14; (with_reducible refine (join_c a' b' m _ HT.out HPP.out.1 HPP.out.2 HN.out.1 HN.out.2).mono ?_); rw [HJ2.out]; rintro e w4 ⟨rfl, bb⟩; have HT := Lib.hid (HT.out.below bb); have B0 := B0.trans (bb.mono B0.size); have K := K.below bb; clear bb; have k0 := K.1; have k1 := K.2.1; have k2 := K.2.2) | (go_at_call 14; (with_reducible refine (join_self j _ HT.out HLJ.out).mono ?_); rintro e w5 ⟨rfl, bb⟩; have HT := Lib.hid (HT.out.below bb); have B0 := B0.trans (bb.mono B0.size); have K := K.below bb; clear bb; have k0 := K.1; have k1 := K.2.1; have k2 := K.2.2) | (go_at_call 16; (with_reducible refine (chain_c a s _ HT.out HA.out.1 (by omega)).mono ?_); rw [HC.out]; rintro e w6 ⟨rfl, bb⟩; have HT := Lib.hid (HT.out.below bb); have B0 := B0.trans (bb.mono B0.size); have K := K.below bb; clear bb; have k0 := K.1; have k1 := K.2.1; have k2 := K.2.2) | (go_at_call 16; (with_reducible refine (chain_c a' s _ HT.out HPP.out.1 (by omega)).mono ?_); rw [HC2.out]; rintro e w7 ⟨rfl, bb⟩; have HT := Lib.hid (HT.out.below bb); have B0 := B0.trans (bb.mono B0.size); have K := K.below bb; clear bb; have k0 := K.1; have k1 := K.2.1; have k2 := K.2.2) | (go_at_call 11; (with_reducible refine (alive_walk _ HT.out).mono ?_); rintro e w9 ⟨rfl, bb⟩; have HT := Lib.hid (HT.out.below bb); have B0 := B0.trans (bb.mono B0.size); have K := K.below bb; clear bb; have k0 := K.1; have k1 := K.2.1; have k2 := K.2.2))
    all_goals go_wp2
    all_goals go_ret
    all_goals exact ⟨rfl, B0⟩
end Go.Proofs.Ytlinmhmhgnhmeaa
