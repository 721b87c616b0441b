/-
  The walk of garmentlaw05.DrawsSkips.
-/
import Derived.Test.YthkgmjbjiiddhaaDraA
namespace Go.Proofs.Ythkgmjbjiiddhaa
open Go.RowKit Dra
set_option linter.unusedVariables false
set_option maxRecDepth 20000 in
set_option maxHeartbeats 2000000 in
theorem lawdrawsskips_walk (w : World) (d : Nat) (hd : d < 18446744073709551616) (k : Int) (hk0 : -9223372036854775808 ≤ k) (hk : k ≤ 9223372036854775807) : Calls Try.prog 6 #[.int .u64 (d : Int), .int .i64 k] w fun e w' => e = .returned (.bool true) ∧ Below w.heap.size w w' := by
  have B0 := Below.refl w.heap.size w
  clear hd hk0
  have Hk := Lib.hid hk
  clear hk
  go_enter Try.func6, Try.ntmps6
  go_wp2_with (first
    | (go_at_call 22; with_reducible refine (skip_walk d k _ Hk.out).mono ?_; rintro e w1 ⟨rfl, bb⟩; have B0 := B0.trans (bb.mono B0.size); clear bb)
    | (go_at_call 23; with_reducible refine (rskip_walk d k _ Hk.out).mono ?_; rintro e w1 ⟨rfl, rfl⟩; skip)
    | (go_at_call 16; with_reducible refine (awake_walk _).mono ?_; rintro e w1 ⟨rfl, bb⟩; have B0 := B0.trans (bb.mono B0.size); clear bb))
  go_ret
  exact ⟨rfl, B0⟩
end Go.Proofs.Ythkgmjbjiiddhaa
