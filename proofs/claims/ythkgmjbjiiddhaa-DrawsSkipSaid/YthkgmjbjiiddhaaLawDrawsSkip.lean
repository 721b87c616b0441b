/-
  The walk of garmentlaw05.DrawsSkip.
-/
import Derived.Test.YthkgmjbjiiddhaaDraA
import Derived.Laws.Cover1
namespace Go.Proofs.Ythkgmjbjiiddhaa
open Go.RowKit Dra
set_option linter.unusedVariables false
theorem sk_no (d : Nat) (z : Int) (hz : z ≤ 0) (w : World) : Calls Try.prog 22 #[.int .u64 (d : Int), .int .i64 z] w fun e w' => e = .returned (.int .u64 (d : Int)) ∧ Below w.heap.size w w' := by
  have h := skip_walk d z w (by omega)
  rw [show z.toNat = 0 by omega, skp_zero] at h
  exact h
theorem sk_a (d : Nat) (A : Nat) (hA : A ≤ 9223372036854775807) (w : World) : Calls Try.prog 22 #[.int .u64 (d : Int), .int .i64 (A : Int)] w fun e w' => e = .returned (.int .u64 (skp A d : Int)) ∧ Below w.heap.size w w' := by
  have h := skip_walk d A w (by omega)
  rw [show (A : Int).toNat = A by omega] at h
  exact h
theorem sk_b (d : Nat) (A B : Nat) (hB : B ≤ 9223372036854775807) (w : World) : Calls Try.prog 22 #[.int .u64 (skp A d : Int), .int .i64 (B : Int)] w fun e w' => e = .returned (.int .u64 (skp (A + B) d : Int)) ∧ Below w.heap.size w w' := by
  have h := skip_walk (skp A d) B w (by omega)
  rw [show (B : Int).toNat = B by omega, ← skp_add] at h
  exact h
theorem sk_ab (d : Nat) (A B : Nat) (hB : A + B ≤ 9223372036854775807) (w : World) : Calls Try.prog 22 #[.int .u64 (d : Int), .int .i64 ((A : Int) + (B : Int))] w fun e w' => e = .returned (.int .u64 (skp (A + B) d : Int)) ∧ Below w.heap.size w w' := by
  have h := skip_walk d (A + B) w (by omega)
  rw [show ((A : Int) + (B : Int)).toNat = A + B by omega] at h
  exact h
theorem sk_1 (d : Nat)  (w : World) : Calls Try.prog 22 #[.int .u64 (d : Int), .int .i64 1] w fun e w' => e = .returned (.int .u64 (nx d : Int)) ∧ Below w.heap.size w w' := by
  have h := skip_walk d 1 w (by omega)
  rw [show Int.toNat 1 = 1 from rfl, skp_one] at h
  exact h
theorem sk_0 (d : Nat)  (w : World) : Calls Try.prog 22 #[.int .u64 (d : Int), .int .i64 0] w fun e w' => e = .returned (.int .u64 (d : Int)) ∧ Below w.heap.size w w' := by
  have h := skip_walk d 0 w (by omega)
  rw [show Int.toNat 0 = 0 from rfl, skp_zero] at h
  exact h
theorem sk_a1 (d : Nat) (A : Nat) (hA : A + 1 ≤ 9223372036854775807) (w : World) : Calls Try.prog 22 #[.int .u64 (d : Int), .int .i64 ((A : Int) + 1)] w fun e w' => e = .returned (.int .u64 (nx (skp A d) : Int)) ∧ Below w.heap.size w w' := by
  have h := skip_walk d (A + 1) w (by omega)
  rw [show ((A : Int) + 1).toNat = A + 1 by omega, skp_next] at h
  exact h
set_option maxRecDepth 20000 in
set_option maxHeartbeats 2000000 in
theorem lawdrawsskip_walk (w : World) (d : Nat) (hd : d < 18446744073709551616) (a : Int) (ha0 : -9223372036854775808 ≤ a) (ha : a ≤ 9223372036854775807) (b : Int) (hb0 : -9223372036854775808 ≤ b) (hb : b ≤ 9223372036854775807) : Calls Try.prog 7 #[.int .u64 (d : Int), .int .i64 a, .int .i64 b] w fun e w' => e = .returned (.bool true) ∧ Below w.heap.size w w' := by
  have B0 := Below.refl w.heap.size w
  have Hd := Lib.hid hd
  clear hd
  go_enter Try.func7, Try.ntmps7
  by_cases hbad : a < 0 ∨ b < 0 ∨ a > 4611686018427387904 ∨ b > 4611686018427387903
  · go_wp2_with (first
    | (go_at_call 22; refine (sk_no d _ ?_ _).mono ?_; (clear Hd B0; (try split) <;> omega); rintro e w1 ⟨rfl, bb⟩; have B0 := B0.trans (bb.mono B0.size); clear bb)
    | (go_at_call 16; with_reducible refine (awake_walk _).mono ?_; rintro e w1 ⟨rfl, bb⟩; have B0 := B0.trans (bb.mono B0.size); clear bb))
    all_goals go_ret
    all_goals exact ⟨rfl, B0⟩
  · obtain ⟨A, rfl⟩ : ∃ A : Nat, a = (A : Int) := ⟨a.toNat, by omega⟩
    obtain ⟨B, rfl⟩ : ∃ B : Nat, b = (B : Int) := ⟨b.toNat, by omega⟩
    have hA : A ≤ 4611686018427387904 := by omega
    have hB : B ≤ 4611686018427387903 := by omega
    have HA : Hid (A ≤ 9223372036854775807) := by show _ ≤ _; omega
    have HB : Hid (B ≤ 9223372036854775807) := by show _ ≤ _; omega
    have HAB : Hid (A + B ≤ 9223372036854775807) := by show _ ≤ _; omega
    have HA1 : Hid (A + 1 ≤ 9223372036854775807) := by show _ ≤ _; omega
    clear hbad
    by_cases he : A = 4611686018427387904
    · have hAe : ((A : Int) == 4611686018427387904) = true := by simp; omega
      clear he
      go_wp2_with (first
        | (go_at_call 12; with_reducible refine (next_walk d _ Hd.out).mono ?_; rintro e w1 ⟨rfl, bb⟩; have B0 := B0.trans (bb.mono B0.size); clear bb)
        | (go_at_call 12; with_reducible refine (next_walk (skp A d) _ (skp_lt A d Hd.out)).mono ?_; rintro e w1 ⟨rfl, bb⟩; have B0 := B0.trans (bb.mono B0.size); clear bb)
        | (go_at_call 22; with_reducible refine (sk_a d A HA.out _).mono ?_; rintro e w1 ⟨rfl, bb⟩; have B0 := B0.trans (bb.mono B0.size); clear bb)
        | (go_at_call 22; with_reducible refine (sk_b d A B HB.out _).mono ?_; rintro e w1 ⟨rfl, bb⟩; have B0 := B0.trans (bb.mono B0.size); clear bb)
        | (go_at_call 22; with_reducible refine (sk_ab d A B HAB.out _).mono ?_; rintro e w1 ⟨rfl, bb⟩; have B0 := B0.trans (bb.mono B0.size); clear bb)
        | (go_at_call 22; with_reducible refine (sk_1 d _).mono ?_; rintro e w1 ⟨rfl, bb⟩; have B0 := B0.trans (bb.mono B0.size); clear bb)
        | (go_at_call 22; with_reducible refine (sk_0 d _).mono ?_; rintro e w1 ⟨rfl, bb⟩; have B0 := B0.trans (bb.mono B0.size); clear bb)
        | (go_at_call 22; with_reducible refine (sk_a1 d A HA1.out _).mono ?_; rintro e w1 ⟨rfl, bb⟩; have B0 := B0.trans (bb.mono B0.size); clear bb)
        | (go_at_call 16; with_reducible refine (awake_walk _).mono ?_; rintro e w1 ⟨rfl, bb⟩; have B0 := B0.trans (bb.mono B0.size); clear bb))
      go_ret
      exact ⟨rfl, B0⟩
    · have hAe : ((A : Int) == 4611686018427387904) = false := by simp; omega
      clear he
      go_wp2_with (first
        | (go_at_call 12; with_reducible refine (next_walk d _ Hd.out).mono ?_; rintro e w1 ⟨rfl, bb⟩; have B0 := B0.trans (bb.mono B0.size); clear bb)
        | (go_at_call 12; with_reducible refine (next_walk (skp A d) _ (skp_lt A d Hd.out)).mono ?_; rintro e w1 ⟨rfl, bb⟩; have B0 := B0.trans (bb.mono B0.size); clear bb)
        | (go_at_call 22; with_reducible refine (sk_a d A HA.out _).mono ?_; rintro e w1 ⟨rfl, bb⟩; have B0 := B0.trans (bb.mono B0.size); clear bb)
        | (go_at_call 22; with_reducible refine (sk_b d A B HB.out _).mono ?_; rintro e w1 ⟨rfl, bb⟩; have B0 := B0.trans (bb.mono B0.size); clear bb)
        | (go_at_call 22; with_reducible refine (sk_ab d A B HAB.out _).mono ?_; rintro e w1 ⟨rfl, bb⟩; have B0 := B0.trans (bb.mono B0.size); clear bb)
        | (go_at_call 22; with_reducible refine (sk_1 d _).mono ?_; rintro e w1 ⟨rfl, bb⟩; have B0 := B0.trans (bb.mono B0.size); clear bb)
        | (go_at_call 22; with_reducible refine (sk_0 d _).mono ?_; rintro e w1 ⟨rfl, bb⟩; have B0 := B0.trans (bb.mono B0.size); clear bb)
        | (go_at_call 22; with_reducible refine (sk_a1 d A HA1.out _).mono ?_; rintro e w1 ⟨rfl, bb⟩; have B0 := B0.trans (bb.mono B0.size); clear bb)
        | (go_at_call 16; with_reducible refine (awake_walk _).mono ?_; rintro e w1 ⟨rfl, bb⟩; have B0 := B0.trans (bb.mono B0.size); clear bb))
      go_ret
      exact ⟨rfl, B0⟩
end Go.Proofs.Ythkgmjbjiiddhaa
