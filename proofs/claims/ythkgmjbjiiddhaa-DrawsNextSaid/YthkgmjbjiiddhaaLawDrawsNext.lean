/-
  The walk of garmentlaw05.DrawsNext.
-/
import Derived.Test.YthkgmjbjiiddhaaDraA
namespace Go.Proofs.Ythkgmjbjiiddhaa
open Go.RowKit Dra
set_option linter.unusedVariables false
set_option maxRecDepth 20000 in
set_option maxHeartbeats 2000000 in
theorem lawdrawsnext_walk (w : World) (d : Nat) (hd : d < 18446744073709551616) (n : Int) (hn0 : -9223372036854775808 ≤ n) (hn : n ≤ 9223372036854775807) : Calls Try.prog 3 #[.int .u64 (d : Int), .int .i64 n] w fun e w' => e = .returned (.bool true) ∧ Below w.heap.size w w' := by
  have B0 := Below.refl w.heap.size w
  have Hd := Lib.hid hd
  clear hd
  clear hn0 hn
  go_enter Try.func3, Try.ntmps3
  go_wp2_with (first
    | (go_at_call 12; with_reducible refine (next_walk d _ Hd.out).mono ?_; rintro e w1 ⟨rfl, bb⟩; have B0 := B0.trans (bb.mono B0.size); clear bb)
    | (go_at_call 13; with_reducible refine (rnext_walk d _ Hd.out).mono ?_; rintro e w1 ⟨rfl, rfl⟩; skip)
    | (go_at_call 14; with_reducible refine (below_walk d n _ Hd.out).mono ?_; rintro e w1 ⟨rfl, bb⟩; have B0 := B0.trans (bb.mono B0.size); clear bb)
    | (go_at_call 15; with_reducible refine (rbelow_walk d n _ Hd.out).mono ?_; rintro e w1 ⟨rfl, bb⟩; have B0 := B0.trans (bb.mono B0.size); clear bb)
    | (go_at_call 16; with_reducible refine (awake_walk _).mono ?_; rintro e w1 ⟨rfl, bb⟩; have B0 := B0.trans (bb.mono B0.size); clear bb))
  go_ret
  exact ⟨rfl, B0⟩
end Go.Proofs.Ythkgmjbjiiddhaa
