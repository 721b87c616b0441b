/-
  The walk of garmentlaw05.DrawsApart.
-/
import Derived.Test.YthkgmjbjiiddhaaDraA
namespace Go.Proofs.Ythkgmjbjiiddhaa
open Go.RowKit Dra
set_option linter.unusedVariables false
theorem nx_v (d x k : Nat) (hd : d < 18446744073709551616) (hx : nx d = x) (hk : num d = k) (w : World) : Calls Try.prog 12 #[.int .u64 (d : Int)] w fun e w' => e = .returned (.tuple #[.int .u64 (x : Int), .int .i64 (k : Int)]) ∧ Below w.heap.size w w' := by
  subst hx hk
  exact next_walk d w hd
theorem be_v (d x i : Nat) (n : Int) (hd : d < 18446744073709551616) (hx : nx d = x) (hi : bel d n.toNat = i) (w : World) : Calls Try.prog 14 #[.int .u64 (d : Int), .int .i64 n] w fun e w' => e = .returned (.tuple #[.int .u64 (x : Int), .int .i64 (i : Int)]) ∧ Below w.heap.size w w' := by
  subst hx hi
  exact below_walk d n w hd
theorem nx_inj (d e : Nat) (hd : d < 18446744073709551616) (he : e < 18446744073709551616) (h : nx d = nx e) : d = e := by
  unfold nx at h
  exact af_inj _ _ _ 13877824140714322085 (by rw [factor_inv]) d e hd he h
theorem bel_facts (d : Nat) (n : Int) : (n < 1 → bel d n.toNat = 0) ∧ (¬ n < 1 → (bel d n.toNat : Int) < n) ∧ (¬ n ≤ (num d : Int) → bel d n.toNat = num d) := by
  refine ⟨fun h => ?_, fun h => ?_, fun h => ?_⟩
  · rw [show n.toNat = 0 by omega]; exact if_pos rfl
  · have := bel_lt d n.toNat (by omega)
    omega
  · rw [bel_pos d _ (by omega)]
    exact Nat.mod_eq_of_lt (by omega)
set_option maxRecDepth 20000 in
set_option maxHeartbeats 2000000 in
theorem lawdrawsapart_walk (w : World) (d : Nat) (hd : d < 18446744073709551616) (e : Nat) (he : e < 18446744073709551616) (n : Int) (hn0 : -9223372036854775808 ≤ n) (hn : n ≤ 9223372036854775807) : Calls Try.prog 11 #[.int .u64 (d : Int), .int .u64 (e : Int), .int .i64 n] w fun e w' => e = .returned (.bool true) ∧ Below w.heap.size w w' := by
  have B0 := Below.refl w.heap.size w
  have Hd := Lib.hid hd
  clear hd
  have He := Lib.hid he
  clear he
  obtain ⟨x, hx⟩ : ∃ x, nx d = x := ⟨_, rfl⟩
  obtain ⟨y, hy⟩ : ∃ y, nx e = y := ⟨_, rfl⟩
  obtain ⟨k, hk⟩ : ∃ k, num d = k := ⟨_, rfl⟩
  obtain ⟨p, hp⟩ : ∃ p, num e = p := ⟨_, rfl⟩
  obtain ⟨i, hi⟩ : ∃ i, bel d n.toNat = i := ⟨_, rfl⟩
  have hk1 := num_lt d
  obtain ⟨hb1, hb2, hb3⟩ := bel_facts d n
  rw [hk] at hk1
  rw [hi] at hb1 hb2 hb3
  rw [hk] at hb3
  have hxy : d = e ∧ x = y ∨ ((x : Int) == (y : Int)) = false ∧ ((d : Int) == (e : Int)) = false := by
    by_cases h : d = e
    · exact .inl ⟨h, by rw [← hx, ← hy, h]⟩
    · refine .inr ⟨?_, by simp; omega⟩
      have : ¬ x = y := fun h1 => h (nx_inj d e Hd.out He.out (by rw [hx, hy, h1]))
      simp
      omega
  have Hx := Lib.hid hx
  have Hy := Lib.hid hy
  have Hk := Lib.hid hk
  have Hp := Lib.hid hp
  have Hi := Lib.hid hi
  have hk2 : decide ((k : Int) ≤ 2147483647) = true := decide_eq_true (by omega)
  clear hx hy hk hp hi hn0 hn hk1
  go_enter Try.func11, Try.ntmps11
  rcases hxy with ⟨rfl, rfl⟩ | ⟨h1, h2⟩
  · by_cases c1 : n < 1
    · obtain rfl := hb1 c1
      have c2 : decide (n ≤ (k : Int)) = true := decide_eq_true (by omega)
      have c1 : decide (n < 1) = true := decide_eq_true c1
      clear hb1 hb2 hb3
      go_wp2_with (first
        | (go_at_call 12; with_reducible refine (nx_v _ _ _ Hd.out Hx.out Hk.out _).mono ?_; rintro e w1 ⟨rfl, bb⟩; have B0 := B0.trans (bb.mono B0.size); clear bb)
        | (go_at_call 12; with_reducible refine (nx_v _ _ _ He.out Hy.out Hp.out _).mono ?_; rintro e w1 ⟨rfl, bb⟩; have B0 := B0.trans (bb.mono B0.size); clear bb)
        | (go_at_call 14; with_reducible refine (be_v _ _ _ _ Hd.out Hx.out Hi.out _).mono ?_; rintro e w1 ⟨rfl, bb⟩; have B0 := B0.trans (bb.mono B0.size); clear bb)
        | (go_at_call 16; with_reducible refine (awake_walk _).mono ?_; rintro e w1 ⟨rfl, bb⟩; have B0 := B0.trans (bb.mono B0.size); clear bb))
      go_ret
      exact ⟨rfl, B0⟩
    · have hb2 := decide_eq_true (hb2 c1)
      have c1 : decide (n < 1) = false := decide_eq_false c1
      by_cases c2 : n ≤ (k : Int)
      · have c2 := decide_eq_true c2
        clear hb1 hb3
        go_wp2_with (first
          | (go_at_call 12; with_reducible refine (nx_v _ _ _ Hd.out Hx.out Hk.out _).mono ?_; rintro e w1 ⟨rfl, bb⟩; have B0 := B0.trans (bb.mono B0.size); clear bb)
          | (go_at_call 12; with_reducible refine (nx_v _ _ _ He.out Hy.out Hp.out _).mono ?_; rintro e w1 ⟨rfl, bb⟩; have B0 := B0.trans (bb.mono B0.size); clear bb)
          | (go_at_call 14; with_reducible refine (be_v _ _ _ _ Hd.out Hx.out Hi.out _).mono ?_; rintro e w1 ⟨rfl, bb⟩; have B0 := B0.trans (bb.mono B0.size); clear bb)
          | (go_at_call 16; with_reducible refine (awake_walk _).mono ?_; rintro e w1 ⟨rfl, bb⟩; have B0 := B0.trans (bb.mono B0.size); clear bb))
        go_ret
        exact ⟨rfl, B0⟩
      · obtain rfl := hb3 c2
        have c2 := decide_eq_false c2
        clear hb1 hb3
        go_wp2_with (first
          | (go_at_call 12; with_reducible refine (nx_v _ _ _ Hd.out Hx.out Hk.out _).mono ?_; rintro e w1 ⟨rfl, bb⟩; have B0 := B0.trans (bb.mono B0.size); clear bb)
          | (go_at_call 12; with_reducible refine (nx_v _ _ _ He.out Hy.out Hp.out _).mono ?_; rintro e w1 ⟨rfl, bb⟩; have B0 := B0.trans (bb.mono B0.size); clear bb)
          | (go_at_call 14; with_reducible refine (be_v _ _ _ _ Hd.out Hx.out Hi.out _).mono ?_; rintro e w1 ⟨rfl, bb⟩; have B0 := B0.trans (bb.mono B0.size); clear bb)
          | (go_at_call 16; with_reducible refine (awake_walk _).mono ?_; rintro e w1 ⟨rfl, bb⟩; have B0 := B0.trans (bb.mono B0.size); clear bb))
        go_ret
        exact ⟨rfl, B0⟩
  · by_cases c1 : n < 1
    · obtain rfl := hb1 c1
      have c2 : decide (n ≤ (k : Int)) = true := decide_eq_true (by omega)
      have c1 : decide (n < 1) = true := decide_eq_true c1
      clear hb1 hb2 hb3
      go_wp2_with (first
        | (go_at_call 12; with_reducible refine (nx_v _ _ _ Hd.out Hx.out Hk.out _).mono ?_; rintro e w1 ⟨rfl, bb⟩; have B0 := B0.trans (bb.mono B0.size); clear bb)
        | (go_at_call 12; with_reducible refine (nx_v _ _ _ He.out Hy.out Hp.out _).mono ?_; rintro e w1 ⟨rfl, bb⟩; have B0 := B0.trans (bb.mono B0.size); clear bb)
        | (go_at_call 14; with_reducible refine (be_v _ _ _ _ Hd.out Hx.out Hi.out _).mono ?_; rintro e w1 ⟨rfl, bb⟩; have B0 := B0.trans (bb.mono B0.size); clear bb)
        | (go_at_call 16; with_reducible refine (awake_walk _).mono ?_; rintro e w1 ⟨rfl, bb⟩; have B0 := B0.trans (bb.mono B0.size); clear bb))
      go_ret
      exact ⟨rfl, B0⟩
    · have hb2 := decide_eq_true (hb2 c1)
      have c1 : decide (n < 1) = false := decide_eq_false c1
      by_cases c2 : n ≤ (k : Int)
      · have c2 := decide_eq_true c2
        clear hb1 hb3
        go_wp2_with (first
          | (go_at_call 12; with_reducible refine (nx_v _ _ _ Hd.out Hx.out Hk.out _).mono ?_; rintro e w1 ⟨rfl, bb⟩; have B0 := B0.trans (bb.mono B0.size); clear bb)
          | (go_at_call 12; with_reducible refine (nx_v _ _ _ He.out Hy.out Hp.out _).mono ?_; rintro e w1 ⟨rfl, bb⟩; have B0 := B0.trans (bb.mono B0.size); clear bb)
          | (go_at_call 14; with_reducible refine (be_v _ _ _ _ Hd.out Hx.out Hi.out _).mono ?_; rintro e w1 ⟨rfl, bb⟩; have B0 := B0.trans (bb.mono B0.size); clear bb)
          | (go_at_call 16; with_reducible refine (awake_walk _).mono ?_; rintro e w1 ⟨rfl, bb⟩; have B0 := B0.trans (bb.mono B0.size); clear bb))
        go_ret
        exact ⟨rfl, B0⟩
      · obtain rfl := hb3 c2
        have c2 := decide_eq_false c2
        clear hb1 hb3
        go_wp2_with (first
          | (go_at_call 12; with_reducible refine (nx_v _ _ _ Hd.out Hx.out Hk.out _).mono ?_; rintro e w1 ⟨rfl, bb⟩; have B0 := B0.trans (bb.mono B0.size); clear bb)
          | (go_at_call 12; with_reducible refine (nx_v _ _ _ He.out Hy.out Hp.out _).mono ?_; rintro e w1 ⟨rfl, bb⟩; have B0 := B0.trans (bb.mono B0.size); clear bb)
          | (go_at_call 14; with_reducible refine (be_v _ _ _ _ Hd.out Hx.out Hi.out _).mono ?_; rintro e w1 ⟨rfl, bb⟩; have B0 := B0.trans (bb.mono B0.size); clear bb)
          | (go_at_call 16; with_reducible refine (awake_walk _).mono ?_; rintro e w1 ⟨rfl, bb⟩; have B0 := B0.trans (bb.mono B0.size); clear bb))
        go_ret
        exact ⟨rfl, B0⟩
end Go.Proofs.Ythkgmjbjiiddhaa
