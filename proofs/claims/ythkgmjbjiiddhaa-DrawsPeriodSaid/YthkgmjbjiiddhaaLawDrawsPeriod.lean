/-
  The walk of garmentlaw05.DrawsPeriod.
-/
import Derived.Test.YthkgmjbjiiddhaaDraA
namespace Go.Proofs.Ythkgmjbjiiddhaa
open Go.RowKit Dra
set_option linter.unusedVariables false
theorem sub_mod (W P X d q : Nat) (hW : P ∣ W) (hd : d < W) (hq : q < P) (h : X % P = (d + q) % P) : (X + (W - d)) % W % P = q := by
  rw [Nat.mod_mod_of_dvd _ hW]
  have h1 : (X + (W - d) + d) % P = (q + d) % P := by
    rw [show X + (W - d) + d = X + W by omega, Nat.add_mod, Nat.mod_eq_zero_of_dvd hW, Nat.add_zero, Nat.mod_mod, h, Nat.add_comm]
  have h2 := Nat.add_mod (X + (W - d)) d P
  have h3 : ((X + (W - d) : Nat) : Int) % (P : Int) = (q : Int) % (P : Int) := by
    have h4 : (((X + (W - d) : Nat) : Int) + (d : Int)) % (P : Int) = ((q : Int) + (d : Int)) % (P : Int) := by exact_mod_cast h1
    exact (Int.emod_add_cancel_right (d : Int)).1 h4
  have h5 : (X + (W - d)) % P = q % P := by exact_mod_cast h3
  rw [h5, Nat.mod_eq_of_lt hq]
theorem sub_wrap (X d : Nat) (hX : X < 18446744073709551616) (hd : d < 18446744073709551616) : IntKind.u64.wrap ((X : Int) - (d : Int)) = (((X + (18446744073709551616 - d)) % 18446744073709551616 : Nat) : Int) := by
  rw [w64]
  omega
theorem dvd_w (k : Nat) (h : k ≤ 64) : 2 ^ k ∣ 18446744073709551616 := by
  rw [show 18446744073709551616 = 2 ^ 64 from by decide]
  exact Nat.pow_dvd_pow 2 h
theorem per_whole (k d : Nat) (hk : k ≤ 62) : skp (2 ^ k) d % 2 ^ k = (d + 0) % 2 ^ k := by
  have h := period_whole 64 6364136223846793005 1442695040888963407 (by decide) (by decide) k d (by omega)
  rw [show 2 ^ 64 = 18446744073709551616 from by decide] at h
  unfold skp
  exact h
theorem per_half (k d : Nat) (hk : k ≤ 61) : skp (2 ^ k) d % 2 ^ (k + 1) = (d + 2 ^ k) % 2 ^ (k + 1) := by
  have h := period_half 64 6364136223846793005 1442695040888963407 (by decide) (by decide) k d (by omega)
  rw [show 2 ^ 64 = 18446744073709551616 from by decide] at h
  unfold skp
  exact h
theorem pow_le62 (k : Nat) (h : k ≤ 62) : 2 ^ k ≤ 4611686018427387904 := by
  rw [show 4611686018427387904 = 2 ^ 62 from by decide]
  exact Nat.pow_le_pow_right (by omega) h
/-- What the law asks, in numbers: P is 2^k, Q is 2^(k-1), Y and Z the differences of the states. -/
def PerA (d j P Q X Z : Nat) : Prop := P = 2 ^ (j + 1) ∧ Q = 2 ^ j ∧ X = skp P d ∧ Z = skp Q d
theorem PerA.nums {d j P Q X Z : Nat} (h : PerA d j P Q X Z) (hj : j ≤ 61) (hd : d < 18446744073709551616) :
    P = 2 * Q ∧ Q ≤ 4611686018427387904 / 2 ∧ 0 < Q ∧ X < 18446744073709551616 ∧ Z < 18446744073709551616 ∧ (X + (18446744073709551616 - d)) % 18446744073709551616 % P = 0 ∧ (Z + (18446744073709551616 - d)) % 18446744073709551616 % P = Q := by
  obtain ⟨rfl, rfl, rfl, rfl⟩ := h
  have h1 := pow_le62 (j + 1) (by omega)
  have h2 : 0 < 2 ^ j := Nat.two_pow_pos j
  have h3 : 2 ^ (j + 1) = 2 * 2 ^ j := by rw [Nat.pow_succ]; omega
  exact ⟨h3, by omega, h2, skp_lt _ _ hd, skp_lt _ _ hd, sub_mod _ _ _ _ _ (dvd_w _ (by omega)) hd (by omega) (per_whole _ _ (by omega)), sub_mod _ _ _ _ _ (dvd_w _ (by omega)) hd (by omega) (per_half _ _ (by omega))⟩
/-- .. as the walk meets them. -/
def PerB (d j P Q X Z Y V : Nat) : Prop := IntKind.u64.wrap ((X : Int) - (d : Int)) = (Y : Int) ∧ IntKind.u64.wrap ((Z : Int) - (d : Int)) = (V : Int) ∧ IntKind.i64.wrap (2 ^ (j + 1)) = (P : Int) ∧ IntKind.i64.wrap (2 ^ j) = (Q : Int) ∧ IntKind.u64.wrap (2 ^ (j + 1)) = (P : Int) ∧ (Y : Int) % (P : Int) = 0 ∧ (V : Int) % (P : Int) = (Q : Int) ∧ (P : Int) / 2 = (Q : Int) ∧ P ≤ 4611686018427387904 ∧ Q ≤ 4611686018427387904 ∧ Y < 18446744073709551616 ∧ V < 18446744073709551616 ∧ 0 < P
theorem pow_int (j : Nat) : (2 : Int) ^ j = ((2 ^ j : Nat) : Int) := by rw [Int.natCast_pow]; rfl
theorem PerA.facts {d j P Q X Z : Nat} (h : PerA d j P Q X Z) (hj : j ≤ 61) (hd : d < 18446744073709551616) : ∃ Y V, PerB d j P Q X Z Y V := by
  obtain ⟨hPQ, hQ, hQ0, hX, hZ, hY, hV⟩ := h.nums hj hd
  obtain ⟨hP, hQe, -, -⟩ := h
  refine ⟨_, _, sub_wrap X d hX hd, sub_wrap Z d hZ hd, ?_, ?_, ?_, by exact_mod_cast hY, by exact_mod_cast hV, ?_, ?_, ?_, Nat.mod_lt _ (by omega), Nat.mod_lt _ (by omega), ?_⟩
  · rw [pow_int, ← hP]; exact IntWalk.i64_in _ (by clear hP hQe hY hV; omega)
  · rw [pow_int, ← hQe]; exact IntWalk.i64_in _ (by clear hP hQe hY hV; omega)
  · rw [pow_int, ← hP]; exact IntWalk.u64_in _ (by clear hP hQe hY hV; omega)
  · clear hP hQe hY hV; omega
  · clear hP hQe hY hV; omega
  · clear hP hQe hY hV; omega
  · clear hP hQe hY hV; omega
theorem sk_p (d P X : Nat) (hP : P ≤ 4611686018427387904) (h : X = skp P d) (w : World) : Calls Try.prog 22 #[.int .u64 (d : Int), .int .i64 (P : Int)] w fun e w' => e = .returned (.int .u64 (X : Int)) ∧ Below w.heap.size w w' := by
  have h1 := skip_walk d P w (by omega)
  rw [show (P : Int).toNat = P by omega, ← h] at h1
  exact h1
set_option maxRecDepth 20000 in
set_option maxHeartbeats 2000000 in
theorem lawdrawsperiod_walk (w : World) (d : Nat) (hd : d < 18446744073709551616) (k : Nat) (hk : k < 256) : Calls Try.prog 8 #[.int .u64 (d : Int), .int .u8 (k : Int)] w fun e w' => e = .returned (.bool true) ∧ Below w.heap.size w w' := by
  have B0 := Below.refl w.heap.size w
  have Hd := Lib.hid hd
  clear hd
  go_enter Try.func8, Try.ntmps8
  by_cases h1 : k < 1
  · go_wp2_with (first
    | (go_at_call 16; with_reducible refine (awake_walk _).mono ?_; rintro e w1 ⟨rfl, bb⟩; have B0 := B0.trans (bb.mono B0.size); clear bb))
    go_ret
    exact ⟨rfl, B0⟩
  · by_cases h2 : k > 62
    · go_wp2_with (first
      | (go_at_call 16; with_reducible refine (awake_walk _).mono ?_; rintro e w1 ⟨rfl, bb⟩; have B0 := B0.trans (bb.mono B0.size); clear bb))
      go_ret
      exact ⟨rfl, B0⟩
    · obtain ⟨j, rfl⟩ : ∃ j, k = j + 1 := ⟨k - 1, by omega⟩
      obtain ⟨P, Q, X, Z, hA⟩ : ∃ P Q X Z, PerA d j P Q X Z := ⟨_, _, _, _, rfl, rfl, rfl, rfl⟩
      obtain ⟨Y, V, e1, e2, e3, e4, e5, e6, e7, e8, hp, hq, hYb, hVb, hp0⟩ := hA.facts (by clear hA; omega) Hd.out
      have HX : Hid (X = skp P d) := hA.2.2.1
      have HZ : Hid (Z = skp Q d) := hA.2.2.2
      have hP : Hid (P ≤ 4611686018427387904) := hp
      have hQ' : Hid (Q ≤ 4611686018427387904) := hq
      clear hA
      go_wp2_with (first
        | (go_at_call 22; with_reducible refine (sk_p d P X hP.out HX.out _).mono ?_; rintro e w1 ⟨rfl, bb⟩; have B0 := B0.trans (bb.mono B0.size); clear bb)
        | (go_at_call 22; with_reducible refine (sk_p d Q Z hQ'.out HZ.out _).mono ?_; rintro e w1 ⟨rfl, bb⟩; have B0 := B0.trans (bb.mono B0.size); clear bb)
        | (go_at_call 16; with_reducible refine (awake_walk _).mono ?_; rintro e w1 ⟨rfl, bb⟩; have B0 := B0.trans (bb.mono B0.size); clear bb))
      go_ret
      exact ⟨rfl, B0⟩
end Go.Proofs.Ythkgmjbjiiddhaa
