/-
  The walk of garmentlaw05.DrawsShuffles.
-/
import Derived.Test.YthkgmjbjiiddhaaDraA
namespace Go.Proofs.Ythkgmjbjiiddhaa
open Go.RowKit Dra
set_option linter.unusedVariables false
set_option maxRecDepth 20000 in
set_option maxHeartbeats 2000000 in
theorem lawdrawsshuffles_walk (w : World) (d : Nat) (hd : d < 18446744073709551616) (n : Int) (hn0 : -9223372036854775808 ≤ n) (hn : n ≤ 9223372036854775807) : Calls Try.prog 4 #[.int .u64 (d : Int), .int .i64 n] w fun e w' => e = .returned (.bool true) ∧ Below w.heap.size w w' := by
  have B0 := Below.refl w.heap.size w
  have Hd := Lib.hid hd
  clear hd
  clear hn0 hn
  have hl := shuf_len d (lim n 1000)
  have hm := lim_le n 1000
  have Hl : Hid ((shuf d (lim n 1000)).length ≤ 100000) := by show _ ≤ _; omega
  have Hm : Hid (lim n 1000 ≤ 1000) := hm
  have Hll := Lib.hid hl
  clear hl hm
  go_enter Try.func4, Try.ntmps4
  go_wp2_with (first
    | (go_at_call 17; with_reducible refine (shuffle_walk d n _ Hd.out).mono ?_; rintro e w1 ⟨g1, rfl, _, hU, bb⟩; have h1 := hU.rdp Hll.out (Nat.le_refl _) (Nat.le_trans Hm.out (by decide)); rw [List.take_of_length_le (Nat.le_of_eq Hll.out)] at h1; clear hU; have B0 := B0.trans (bb.mono B0.size); clear bb)
    | (go_at_call 18; with_reducible refine (rshuffle_walk d n _ Hd.out).mono ?_; rintro e w1 ⟨g2, rfl, _, hU, bb⟩; have h1 := h1.below bb; have h2 := hU.rdp Hll.out (Nat.le_refl _) (Nat.le_trans Hm.out (by decide)); rw [List.take_of_length_le (Nat.le_of_eq Hll.out)] at h2; clear hU; have B0 := B0.trans (bb.mono B0.size); clear bb)
    | (go_at_call 19; with_reducible refine (same_yes _ _ _ _ h1 h2 Hl.out).mono ?_; rintro e w1 ⟨rfl, bb⟩; have B0 := B0.trans (bb.mono B0.size); clear bb)
    | (go_at_call 16; with_reducible refine (awake_walk _).mono ?_; rintro e w1 ⟨rfl, bb⟩; have B0 := B0.trans (bb.mono B0.size); clear bb))
  go_ret
  exact ⟨rfl, B0⟩
end Go.Proofs.Ythkgmjbjiiddhaa
