/-
  The walk of garmentlaw05.awake: the examples of the chapter hold.
-/
import Derived.Test.YthkgmjbjiiddhaaDraR
namespace Go.Proofs.Ythkgmjbjiiddhaa
open Go.RowKit Dra
set_option linter.unusedVariables false

theorem ex_n0 (w : World) : Calls Try.prog 12 #[.int .u64 0] w fun e w' => e = .returned (.tuple #[.int .u64 1442695040888963407, .int .i64 167951807]) ∧ Below w.heap.size w w' := by
  have h := next_walk 0 w (by omega)
  rw [show nx 0 = 1442695040888963407 by decide +kernel, show num 0 = 167951807 by decide +kernel] at h
  exact h
theorem ex_n1 (w : World) : Calls Try.prog 12 #[.int .u64 1] w fun e w' => e = .returned (.tuple #[.int .u64 7806831264735756412, .int .i64 908834774]) ∧ Below w.heap.size w w' := by
  have h := next_walk 1 w (by omega)
  rw [show nx 1 = 7806831264735756412 by decide +kernel, show num 1 = 908834774 by decide +kernel] at h
  exact h
theorem ex_b0 (w : World) : Calls Try.prog 14 #[.int .u64 0, .int .i64 10] w fun e w' => e = .returned (.tuple #[.int .u64 1442695040888963407, .int .i64 7]) ∧ Below w.heap.size w w' := by
  have h := below_walk 0 10 w (by omega)
  rw [show nx 0 = 1442695040888963407 by decide +kernel, show bel 0 (Int.toNat 10) = 7 by decide +kernel] at h
  exact h
theorem ex_b1 (w : World) : Calls Try.prog 14 #[.int .u64 0, .int .i64 (-3)] w fun e w' => e = .returned (.tuple #[.int .u64 1442695040888963407, .int .i64 0]) ∧ Below w.heap.size w w' := by
  have h := below_walk 0 (-3) w (by omega)
  rw [show nx 0 = 1442695040888963407 by decide +kernel, show bel 0 (Int.toNat (-3)) = 0 by decide +kernel] at h
  exact h
theorem ex_s0 (w : World) : Calls Try.prog 17 #[.int .u64 1, .int .i64 2] w fun e w' => ∃ g, e = .returned (.tuple #[.int .u64 7806831264735756412, .slice (some ⟨g, 0, none⟩) 2 2]) ∧ RdI w' (.slice (some ⟨g, 0, none⟩) 2 2) [1, 0] ∧ Below w.heap.size w w' := by
  have h := shuffle_walk 1 2 w (by omega)
  rw [show lim 2 1000 = 2 by decide +kernel, show skp (2 - 1) 1 = 7806831264735756412 by decide +kernel, show shuf 1 2 = [1, 0] by decide +kernel] at h
  refine h.mono ?_
  rintro e w' ⟨g, he, _, hU, hB⟩
  exact ⟨g, he, hU.rd (by decide), hB⟩
theorem ex_t0 (w : World) : Calls Try.prog 20 #[.int .u64 1, .int .i64 2, .int .i64 1] w fun e w' => ∃ (s : Nat) (v : Value), e = .returned (.tuple #[.int .u64 (s : Int), v]) ∧ RdI w' v [1] ∧ Below w.heap.size w w' := by
  have h := sample_walk 1 2 1 w (by omega)
  rw [show lim 2 1000 = 2 by decide +kernel, show lim 1 2 = 1 by decide +kernel, show smp 1 2 1 = [1] by decide +kernel] at h
  refine h.mono ?_
  rintro e w' ⟨v, he, hR, hB⟩
  exact ⟨_, v, he, hR, hB⟩
theorem ex_t1 (w : World) : Calls Try.prog 20 #[.int .u64 1, .int .i64 2, .int .i64 9] w fun e w' => ∃ (s : Nat) (v : Value), e = .returned (.tuple #[.int .u64 (s : Int), v]) ∧ RdI w' v [0, 1] ∧ Below w.heap.size w w' := by
  have h := sample_walk 1 2 9 w (by omega)
  rw [show lim 2 1000 = 2 by decide +kernel, show lim 9 2 = 2 by decide +kernel, show smp 1 2 2 = [0, 1] by decide +kernel] at h
  refine h.mono ?_
  rintro e w' ⟨v, he, hR, hB⟩
  exact ⟨_, v, he, hR, hB⟩
theorem ex_s1 (w : World) : Calls Try.prog 17 #[.int .u64 9, .int .i64 1] w fun e w' => ∃ g, e = .returned (.tuple #[.int .u64 9, .slice (some ⟨g, 0, none⟩) 1 1]) ∧ RdI w' (.slice (some ⟨g, 0, none⟩) 1 1) [0] ∧ Below w.heap.size w w' := by
  have h := shuffle_walk 9 1 w (by omega)
  rw [show lim 1 1000 = 1 by decide +kernel, show skp (1 - 1) 9 = 9 by decide +kernel, show shuf 9 1 = [0] by decide +kernel] at h
  refine h.mono ?_
  rintro e w' ⟨g, he, _, hU, hB⟩
  exact ⟨g, he, hU.rd (by decide), hB⟩
theorem ex_k0 (w : World) : Calls Try.prog 22 #[.int .u64 5, .int .i64 (-7)] w fun e w' => e = .returned (.int .u64 5) ∧ Below w.heap.size w w' := by
  have h := skip_walk 5 (-7) w (by omega)
  rw [show skp (Int.toNat (-7)) 5 = 5 by decide +kernel] at h
  exact h
theorem ex_k1 (w : World) : Calls Try.prog 22 #[.int .u64 0, .int .i64 1] w fun e w' => e = .returned (.int .u64 1442695040888963407) ∧ Below w.heap.size w w' := by
  have h := skip_walk 0 1 w (by omega)
  rw [show skp (Int.toNat 1) 0 = 1442695040888963407 by decide +kernel] at h
  exact h
theorem same_yes (va vb : Value) (l : List Nat) (w : World) (ha : RdI w va l) (hb : RdI w vb l) (hl : l.length ≤ 100000) :
    Calls Try.prog 19 #[va, vb] w fun e w' => e = .returned (.bool true) ∧ Below w.heap.size w w' := by
  have h := same_walk va vb l l w ha hb hl hl
  rw [beq_self_eq_true] at h
  exact h
theorem up_alloc (w : World) (o : Obj) : Below w.heap.size w (w.alloc o) := (Below.refl _ _).alloc (Nat.le_refl _) o
theorem lit_1 (W : World) (x : Nat) (z : Int) (h : z = x) (e : TypeId) : RdI (W.alloc (.cells #[.int .i64 z] e)) (.slice (some ⟨W.heap.size, 0, none⟩) 1 1) [x] := by
  subst h
  exact ⟨_, 1, rfl, Nat.le_refl _, by omega, fun _ => ⟨_, 0, rfl, lit_celI W x e⟩⟩
theorem lit_2 (W : World) (x y : Nat) (z u : Int) (h : z = x) (hu : u = y) (e : TypeId) : RdI (W.alloc (.cells #[.int .i64 z, .int .i64 u] e)) (.slice (some ⟨W.heap.size, 0, none⟩) 2 2) [x, y] := by
  subst h hu
  refine ⟨_, 2, rfl, Nat.le_refl _, by omega, fun _ => ⟨_, 0, rfl, fun j a hj => ?_⟩⟩
  rw [Nat.zero_add, cell_new]
  match j, hj with
  | 0, hj => simp at hj; subst hj; rfl
  | 1, hj => simp at hj; subst hj; rfl
  | j + 2, hj => simp at hj

set_option maxRecDepth 20000 in
set_option maxHeartbeats 2000000 in
theorem awake_walk (w : World) : Calls Try.prog 16 #[] w fun e w' => e = .returned (.bool true) ∧ Below w.heap.size w w' := by
  have B0 := Below.refl w.heap.size w
  go_enter Try.func16, Try.ntmps16
  go_wp2_with (first
    | (go_at_call 12; with_reducible refine (ex_n0 _).mono ?_; rintro e w1 ⟨rfl, bb⟩; have B0 := B0.trans (bb.mono B0.size); clear bb)
    | (go_at_call 12; with_reducible refine (ex_n1 _).mono ?_; rintro e w1 ⟨rfl, bb⟩; have B0 := B0.trans (bb.mono B0.size); clear bb)
    | (go_at_call 14; with_reducible refine (ex_b0 _).mono ?_; rintro e w1 ⟨rfl, bb⟩; have B0 := B0.trans (bb.mono B0.size); clear bb)
    | (go_at_call 14; with_reducible refine (ex_b1 _).mono ?_; rintro e w1 ⟨rfl, bb⟩; have B0 := B0.trans (bb.mono B0.size); clear bb)
    | (go_at_call 17; with_reducible refine (ex_s0 _).mono ?_; rintro e w1 ⟨g1, rfl, hL, bb⟩; have B0 := B0.trans (bb.mono B0.size); clear bb)
    | (go_at_call 20; with_reducible refine (ex_t0 _).mono ?_; rintro e w1 ⟨s1, v1, rfl, hO, bb⟩; have hL := hL.below bb; have B0 := B0.trans (bb.mono B0.size); clear bb)
    | (go_at_call 20; with_reducible refine (ex_t1 _).mono ?_; rintro e w1 ⟨s2, v2, rfl, hT, bb⟩; have hL := hL.below bb; have hO := hO.below bb; have B0 := B0.trans (bb.mono B0.size); clear bb)
    | (go_at_call 17; with_reducible refine (ex_s1 _).mono ?_; rintro e w1 ⟨g2, rfl, hA, bb⟩; have hL := hL.below bb; have hO := hO.below bb; have hT := hT.below bb; have B0 := B0.trans (bb.mono B0.size); clear bb)
    | (go_at_call 19; with_reducible refine (same_yes _ _ _ _ (hL.below (up_alloc _ _)) (lit_2 _ 1 0 1 0 rfl rfl _) (by decide)).mono ?_; rintro e w1 ⟨rfl, bb⟩; clear hL; have hO := (hO.below (up_alloc _ _)).below bb; have hT := (hT.below (up_alloc _ _)).below bb; have hA := (hA.below (up_alloc _ _)).below bb; have B0 := (B0.trans ((up_alloc _ _).mono B0.size)).trans (bb.mono (B0.trans ((up_alloc _ _).mono B0.size)).size); clear bb)
    | (go_at_call 19; with_reducible refine (same_yes _ _ _ _ (hO.below (up_alloc _ _)) (lit_1 _ 1 1 rfl _) (by decide)).mono ?_; rintro e w1 ⟨rfl, bb⟩; clear hO; have hT := (hT.below (up_alloc _ _)).below bb; have hA := (hA.below (up_alloc _ _)).below bb; have B0 := (B0.trans ((up_alloc _ _).mono B0.size)).trans (bb.mono (B0.trans ((up_alloc _ _).mono B0.size)).size); clear bb)
    | (go_at_call 19; with_reducible refine (same_yes _ _ _ _ (hT.below (up_alloc _ _)) (lit_2 _ 0 1 0 1 rfl rfl _) (by decide)).mono ?_; rintro e w1 ⟨rfl, bb⟩; clear hT; have hA := (hA.below (up_alloc _ _)).below bb; have B0 := (B0.trans ((up_alloc _ _).mono B0.size)).trans (bb.mono (B0.trans ((up_alloc _ _).mono B0.size)).size); clear bb)
    | (go_at_call 19; with_reducible refine (same_yes _ _ _ _ (hA.below (up_alloc _ _)) (lit_1 _ 0 0 rfl _) (by decide)).mono ?_; rintro e w1 ⟨rfl, bb⟩; have B0 := (B0.trans ((up_alloc _ _).mono B0.size)).trans (bb.mono (B0.trans ((up_alloc _ _).mono B0.size)).size); clear bb)
    | (go_at_call 22; with_reducible refine (ex_k0 _).mono ?_; rintro e w1 ⟨rfl, bb⟩; have B0 := B0.trans (bb.mono B0.size); clear bb)
    | (go_at_call 22; with_reducible refine (ex_k1 _).mono ?_; rintro e w1 ⟨rfl, bb⟩; have B0 := B0.trans (bb.mono B0.size); clear bb))
  go_ret
  exact ⟨rfl, B0⟩
end Go.Proofs.Ythkgmjbjiiddhaa
