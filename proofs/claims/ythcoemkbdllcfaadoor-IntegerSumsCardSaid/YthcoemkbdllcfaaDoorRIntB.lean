/-
  The walk of garmentref02.Cmp.
-/
import Derived.Test.YthcoemkbdllcfaaDoorRIntA
import Derived.Deep.DeepCutAuto
namespace Go.Proofs.YthcoemkbdllcfaaDoor
open Go.RowKit
attribute [local go_sem ↓] Go.wp_at_zero Go.wp_at_succ
set_option linter.unusedVariables false

set_option maxRecDepth 20000 in
set_option maxHeartbeats 8000000 in
theorem ricmp_x {w : World} {b b' : Bool} {A A' : Option Addr} {n n' c c' k j : Nat} {z y : Int} (h : Iv w (.agg #[.bool b, .slice A n c]) z k) (hu : Iv w (.agg #[.bool b', .slice A' n' c']) y j) (hk : k ≤ 400) (hj : j ≤ 400) :
    Calls Tryd.prog 18 #[.agg #[.bool b, .slice A n c], .agg #[.bool b', .slice A' n' c']] w (I64End (cmpZ z y) w) := by
  have B0 := below_a2 w (.cells #[.bool b, .slice A n c] 25) (.cells #[.bool b', .slice A' n' c'] 25)
  have h := h.below B0
  have hu := hu.below B0
  have ka := ((Bx.new w (w.heap.size) (by simp) (.bool b) (.slice A n c)).below (below_alloc (w.alloc (.cells #[.bool b, .slice A n c] 25)) (.cells #[.bool b', .slice A' n' c'] 25)))
  have kb := (Bx.new (w.alloc (.cells #[.bool b, .slice A n c] 25)) (w.heap.size + 1) (by simp) (.bool b') (.slice A' n' c'))
  have hs : w.heap.size + 2 ≤ ((w.alloc (.cells #[.bool b, .slice A n c] 25)).alloc (.cells #[.bool b', .slice A' n' c'] 25)).heap.size := by simp
  go_enter Tryd.func18, Tryd.ntmps18
  go_upto_region 1 with fail
  obtain ⟨W, hW⟩ : ∃ W0, ((w.alloc (.cells #[.bool b, .slice A n c] 25)).alloc (.cells #[.bool b', .slice A' n' c'] 25)) = W0 := ⟨_, rfl⟩
  rw [hW] at h hu ka kb hs B0 ⊢
  clear hW
  have s0 := hs
  have hs : Bw (w.heap.size + 2) W W := ⟨Below.refl _ _, hs⟩
  have HS : Hid (∀ w', Bw (w.heap.size + 2) W w' → w'.cell? ⟨w.heap.size, 0, none⟩ = some (.bool b) ∧ w'.cell? ⟨w.heap.size, 1, none⟩ = some (.slice A n c) ∧ w'.cell? ⟨w.heap.size + 1, 0, none⟩ = some (.bool b') ∧ w'.cell? ⟨w.heap.size + 1, 1, none⟩ = some (.slice A' n' c')) := by
    intro w' hb
    have e0 := hb.bx ka (by omega)
    have e1 := hb.bx kb (by omega)
    exact ⟨e0.1, e0.2, e1.1, e1.2⟩
  go_cut [5, 6] (fun s5 s6 wx => Two (w.heap.size + 2) W z y k j s5 s6 wx)
  case first =>
    clear ka kb
    go_region_held3 (fun w' => w'.cell? ⟨w.heap.size, 0, none⟩ = some (.bool b) ∧ w'.cell? ⟨w.heap.size, 1, none⟩ = some (.slice A n c) ∧ w'.cell? ⟨w.heap.size + 1, 0, none⟩ = some (.bool b') ∧ w'.cell? ⟨w.heap.size + 1, 1, none⟩ = some (.slice A' n' c'))
      (first | exact HS.out _ hs | (refine HS.out _ ?_; repeat (first | exact hs | refine Bw.drew ?_ | exact hs.up ‹_› | refine Bw.alloc ?_ _ | refine Bw.set ?_ _ (by first | omega | (simp; omega)) _)))
      (first
        | (go_at_call 16; (first | (with_reducible refine (rnorm_i h.drew ?_).mono ?_) | (with_reducible refine (rnorm_i (h.below (below_alloc _ _)).drew ?_).mono ?_) | (with_reducible refine (rnorm_i ((h.below (below_alloc _ _)).below (below_alloc _ _)).drew ?_).mono ?_)); omega; rintro e w1 ⟨v1, rfl, z1, bb⟩; (first | have hu := hu.drew.below bb | have hu := (hu.below (below_alloc _ _)).drew.below bb | have hu := ((hu.below (below_alloc _ _)).below (below_alloc _ _)).drew.below bb); (first | have hs := hs.drew.up bb | have hs := (hs.alloc _).drew.up bb | have hs := ((hs.alloc _).alloc _).drew.up bb); have s1 := hs.2; (first | (have p1 := ((Rx.new _ W.heap.size (by rfl)).below (below_alloc _ _)).drew.below bb; have p2 := (Rx.new _ (W.heap.size + 1) (by simp)).drew.below bb) | have p1 := (Rx.new _ W.heap.size (by rfl)).drew.below bb | skip); (try obtain ⟨g1, g2, g3⟩ := p1.apart); (try obtain ⟨g4, g5, g6⟩ := p2.apart); clear bb h)
        | (go_at_call 16; (first | (with_reducible refine (rnorm_i hu ?_).mono ?_) | (with_reducible refine (rnorm_i (hu.below (below_alloc _ _)) ?_).mono ?_) | (with_reducible refine (rnorm_i ((hu.below (below_alloc _ _)).below (below_alloc _ _)) ?_).mono ?_)); omega; rintro e w2 ⟨v2, rfl, z2, bb⟩; (first | have z1 := z1.below bb | have z1 := (z1.below (below_alloc _ _)).below bb | have z1 := ((z1.below (below_alloc _ _)).below (below_alloc _ _)).below bb); (first | have hs := hs.up bb | have hs := (hs.alloc _).up bb | have hs := ((hs.alloc _).alloc _).up bb); have s2 := hs.2; (try (first | have p1 := p1.below bb | have p1 := (p1.below (below_alloc _ _)).below bb | have p1 := ((p1.below (below_alloc _ _)).below (below_alloc _ _)).below bb)); (try (first | have p2 := p2.below bb | have p2 := (p2.below (below_alloc _ _)).below bb | have p2 := ((p2.below (below_alloc _ _)).below (below_alloc _ _)).below bb)); (first | (have q1 := ((Rx.new _ w1.heap.size (by rfl)).below (below_alloc _ _)).below bb; have q2 := (Rx.new _ (w1.heap.size + 1) (by simp)).below bb) | have q1 := (Rx.new _ w1.heap.size (by rfl)).below bb | skip); (try (have f1h := p1.1; obtain ⟨f1e, f1f, f1g⟩ := p1.apart; have f1i := p1.2.1; have f1j := p1.2.2.1; have f1k := p1.2.2.2)); (try (have f2h := p2.1; obtain ⟨f2e, f2f, f2g⟩ := p2.apart; have f2i := p2.2.1; have f2j := p2.2.2.1; have f2k := p2.2.2.2)); (try (have d1h := q1.1; obtain ⟨d1e, d1f, d1g⟩ := q1.apart; have d1i := q1.2.1; have d1j := q1.2.2.1; have d1k := q1.2.2.2)); (try (have d2h := q2.1; obtain ⟨d2e, d2f, d2g⟩ := q2.apart; have d2i := q2.2.1; have d2j := q2.2.2.1; have d2k := q2.2.2.2)); obtain ⟨b1, A1, n1, c1, rfl, z1⟩ := z1.cells; obtain ⟨b2, A2, n2, c2, rfl, z2⟩ := z2.cells; clear bb hu))
    all_goals
      go_wp2_with fail
      go_meet
      refine ⟨_, _, b1, A1, n1, c1, b2, A2, n2, c2, rfl, rfl, ?_, ?_, ?_, ?_, ?_⟩
      all_goals
        repeat' (first | with_reducible assumption | (with_reducible exact Bx.new _ _ (by simp) _ _) | (with_reducible refine Bx.later ?_ _) | (with_reducible refine Rx.written ?_ _ _) | (with_reducible refine Bx.ret ?_ (by omega) _ _) | (with_reducible refine Iz.later ?_ _) | (with_reducible refine Iz.ret ?_ ?_ _ _) | (with_reducible refine Iv.later ?_ _) | (with_reducible refine Iv.ret ?_ ?_ _ _) | (with_reducible refine Rx.ret ?_ (by omega) _ _) | (with_reducible refine Bw.alloc ?_ _) | (with_reducible refine Bw.ret ?_ (by omega) _ _))
  case rest =>
    obtain ⟨gx, gy, bx, Ax, nx, cx, by', Ay, ny, cy, rfl, rfl, kx, ky, zx, zy, hw⟩ := hcut
    have ka := hw.bx ka (by omega)
    have kb := hw.bx kb (by omega)
    clear HS
    have B0 := B0.trans (hw.1.mono (by omega))
    obtain ⟨m, zm, hz, h0⟩ := zx.parts
    obtain ⟨m', ym, hy, h0'⟩ := zy.parts
    clear zx zy
    have kx0 := kx.1
    have kx1 := kx.2
    have ky0 := ky.1
    have ky1 := ky.2
    have HZ := cmpZ_cases z y
    cases bx <;> cases by'
    · have HC := cmpI_cases m m'
      have e : cmpI m m' = cmpZ z y := by simp only [sgn_false] at hz hy; omega
      have E := Lib.hid e
      clear hz hy HZ HC e h0 h0'
      go_wp2_with fail
      refine (rcmp_n zm.nm ym.nm (by omega) (by omega) _ E.out).mono ?_
      rintro e w9 ⟨rfl, bb⟩
      go_wp2
      go_ret
      exact ⟨rfl, B0.trans (bb.mono B0.size)⟩
    · have hp : 0 < m' := by rcases Nat.eq_zero_or_pos m' with h | h; exact absurd (h0' h) (by simp); exact h
      have e : 1 = cmpZ z y := by simp only [sgn_false, sgn_true] at hz hy; omega
      have E := Lib.hid e
      clear hz hy HZ e h0 h0'
      go_wp2
      go_ret
      rw [← E.out]
      exact ⟨rfl, B0⟩
    · have hp : 0 < m := by rcases Nat.eq_zero_or_pos m with h | h; exact absurd (h0 h) (by simp); exact h
      have e : -1 = cmpZ z y := by simp only [sgn_false, sgn_true] at hz hy; omega
      have E := Lib.hid e
      clear hz hy HZ e h0 h0'
      go_wp2
      go_ret
      rw [← E.out]
      exact ⟨rfl, B0⟩
    · have HC := cmpI_cases m' m
      have e : cmpI m' m = cmpZ z y := by simp only [sgn_true] at hz hy; omega
      have E := Lib.hid e
      clear hz hy HZ HC e h0 h0'
      go_wp2_with fail
      refine (rcmp_n ym.nm zm.nm (by omega) (by omega) _ E.out).mono ?_
      rintro e w9 ⟨rfl, bb⟩
      go_wp2
      go_ret
      exact ⟨rfl, B0.trans (bb.mono B0.size)⟩
theorem ricmp_i {w : World} {v u : Value} {z y : Int} {k j : Nat} (h : Iv w v z k) (hu : Iv w u y j) (hk : k ≤ 400) (hj : j ≤ 400) (c : Int) (hc : cmpZ z y = c) : Calls Tryd.prog 18 #[v, u] w (I64End c w) := by
  subst hc
  have h' := h
  have hu' := hu
  obtain ⟨b, A, n, d, m, rfl, _⟩ := h'
  obtain ⟨b', A', n', d', m', rfl, _⟩ := hu'
  exact ricmp_x h hu hk hj
end Go.Proofs.YthcoemkbdllcfaaDoor
