/-
  The walk of garmentlaw05.DrawsSamples.
-/
import Derived.Test.YthkgmjbjiiddhaaDraA
namespace Go.Proofs.Ythkgmjbjiiddhaa
open Go.RowKit Dra
set_option linter.unusedVariables false
set_option maxRecDepth 20000 in
set_option maxHeartbeats 2000000 in
theorem lawdrawssamples_walk (w : World) (d : Nat) (hd : d < 18446744073709551616) (n : Int) (hn0 : -9223372036854775808 ≤ n) (hn : n ≤ 9223372036854775807) (k : Int) (hk0 : -9223372036854775808 ≤ k) (hk : k ≤ 9223372036854775807) : Calls Try.prog 5 #[.int .u64 (d : Int), .int .i64 n, .int .i64 k] w fun e w' => e = .returned (.bool true) ∧ Below w.heap.size w w' := by
  have B0 := Below.refl w.heap.size w
  have Hd := Lib.hid hd
  clear hd
  clear hn0 hn hk0 hk
  have Hl : Hid ((smp d (lim n 1000) (lim k (lim n 1000))).length ≤ 100000) := by
    show _ ≤ _
    rw [smp_len d _ _ (lim_le k _)]
    have h1 := lim_le k (lim n 1000)
    have h2 := lim_le n 1000
    omega
  go_enter Try.func5, Try.ntmps5
  go_wp2_with (first
    | (go_at_call 20; with_reducible refine (sample_walk d n k _ Hd.out).mono ?_; rintro e w1 ⟨v1, rfl, h1, bb⟩; have B0 := B0.trans (bb.mono B0.size); clear bb)
    | (go_at_call 21; with_reducible refine (rsample_walk d n k _ Hd.out).mono ?_; rintro e w1 ⟨v2, rfl, h2, bb⟩; have h1 := h1.below bb; have B0 := B0.trans (bb.mono B0.size); clear bb)
    | (go_at_call 19; with_reducible refine (same_yes _ _ _ _ h1 h2 Hl.out).mono ?_; rintro e w1 ⟨rfl, bb⟩; have B0 := B0.trans (bb.mono B0.size); clear bb)
    | (go_at_call 16; with_reducible refine (awake_walk _).mono ?_; rintro e w1 ⟨rfl, bb⟩; have B0 := B0.trans (bb.mono B0.size); clear bb))
  go_ret
  exact ⟨rfl, B0⟩
end Go.Proofs.Ythkgmjbjiiddhaa
