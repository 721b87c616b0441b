/-
  The walk of garmentref02.DivMod.
-/
import Derived.Test.YthcoemkbdllcfaaDoorRIntA
import Derived.Test.YthcoemkbdllcfaaDoorIntD
import Derived.Deep.DeepCutAuto
namespace Go.Proofs.YthcoemkbdllcfaaDoor
open Go.RowKit
attribute [local go_sem ↓] Go.wp_at_zero Go.wp_at_succ
set_option linter.unusedVariables false

theorem div_m' (c : Bool) (m m' : Nat) (h : 0 < m') (h' : 0 < m % m') : sgn (!(true == c)) (m / m' + 1) = sgn true m / sgn c m' ∧ sgn false (m' - m % m') = sgn true m % sgn c m' := by
  rcases div_m c m m' h with e | e
  · exact ⟨e.1, e.2 h'⟩
  · omega
/-- Quotient and remainder, or the zero values. -/
def DEnd (z y : Int) (k j : Nat) (w : World) (e : Ending) (w' : World) : Prop := if y = 0 then ID0End w e w' else IDEnd (z / y) (z % y) k j w e w'
theorem DEnd.zero {z y : Int} {k j : Nat} {w : World} {e : Ending} {w' : World} (hy : y = 0) (h : ID0End w e w') : DEnd z y k j w e w' := by
  unfold DEnd; rw [if_pos hy]; exact h
theorem DEnd.some {z y q r : Int} {k j : Nat} {w : World} {e : Ending} {w' : World} (hy : y ≠ 0) (h : IDEnd q r k j w e w') (hq : q = z / y) (hr : r = z % y) : DEnd z y k j w e w' := by
  unfold DEnd; rw [if_neg hy, ← hq, ← hr]; exact h
set_option maxRecDepth 20000 in
set_option maxHeartbeats 12000000 in
theorem ridiv_x {w : World} {b b' : Bool} {A A' : Option Addr} {n n' c c' k j : Nat} {z y : Int} (h : Iv w (.agg #[.bool b, .slice A n c]) z k) (hu : Iv w (.agg #[.bool b', .slice A' n' c']) y j) (hk : k ≤ 100) (hj : j ≤ 100) :
    Calls Tryd.prog 26 #[.agg #[.bool b, .slice A n c], .agg #[.bool b', .slice A' n' c']] w (DEnd z y (k + 3) j w) := by
  have B0 := below_a4 w (.cells #[.bool b, .slice A n c] 25) (.cells #[.bool b', .slice A' n' c'] 25) (.cells #[.bool false, .slice none 0 0] 25) (.cells #[.bool false, .slice none 0 0] 25)
  have h := h.below B0
  have hu := hu.below B0
  have ka := ((((Bx.new w (w.heap.size) (by simp) (.bool b) (.slice A n c)).below (below_alloc (w.alloc (.cells #[.bool b, .slice A n c] 25)) (.cells #[.bool b', .slice A' n' c'] 25))).below (below_alloc ((w.alloc (.cells #[.bool b, .slice A n c] 25)).alloc (.cells #[.bool b', .slice A' n' c'] 25)) (.cells #[.bool false, .slice none 0 0] 25))).below (below_alloc (((w.alloc (.cells #[.bool b, .slice A n c] 25)).alloc (.cells #[.bool b', .slice A' n' c'] 25)).alloc (.cells #[.bool false, .slice none 0 0] 25)) (.cells #[.bool false, .slice none 0 0] 25)))
  have kb := (((Bx.new (w.alloc (.cells #[.bool b, .slice A n c] 25)) (w.heap.size + 1) (by simp) (.bool b') (.slice A' n' c')).below (below_alloc ((w.alloc (.cells #[.bool b, .slice A n c] 25)).alloc (.cells #[.bool b', .slice A' n' c'] 25)) (.cells #[.bool false, .slice none 0 0] 25))).below (below_alloc (((w.alloc (.cells #[.bool b, .slice A n c] 25)).alloc (.cells #[.bool b', .slice A' n' c'] 25)).alloc (.cells #[.bool false, .slice none 0 0] 25)) (.cells #[.bool false, .slice none 0 0] 25)))
  have kq := ((Rx.new ((w.alloc (.cells #[.bool b, .slice A n c] 25)).alloc (.cells #[.bool b', .slice A' n' c'] 25)) (w.heap.size + 1 + 1) (by simp)).below (below_alloc (((w.alloc (.cells #[.bool b, .slice A n c] 25)).alloc (.cells #[.bool b', .slice A' n' c'] 25)).alloc (.cells #[.bool false, .slice none 0 0] 25)) (.cells #[.bool false, .slice none 0 0] 25)))
  have kr := (Rx.new (((w.alloc (.cells #[.bool b, .slice A n c] 25)).alloc (.cells #[.bool b', .slice A' n' c'] 25)).alloc (.cells #[.bool false, .slice none 0 0] 25)) (w.heap.size + 1 + 1 + 1) (by simp))
  have hs : w.heap.size + 4 ≤ ((((w.alloc (.cells #[.bool b, .slice A n c] 25)).alloc (.cells #[.bool b', .slice A' n' c'] 25)).alloc (.cells #[.bool false, .slice none 0 0] 25)).alloc (.cells #[.bool false, .slice none 0 0] 25)).heap.size := by simp
  go_enter Tryd.func26, Tryd.ntmps26
  go_upto_region 1 with fail
  obtain ⟨W, hW⟩ : ∃ W0, ((((w.alloc (.cells #[.bool b, .slice A n c] 25)).alloc (.cells #[.bool b', .slice A' n' c'] 25)).alloc (.cells #[.bool false, .slice none 0 0] 25)).alloc (.cells #[.bool false, .slice none 0 0] 25)) = W0 := ⟨_, rfl⟩
  rw [hW] at h hu ka kb kq kr hs B0 ⊢
  clear hW
  have s0 := hs
  have hs : Bw (w.heap.size + 4) W W := ⟨Below.refl _ _, hs⟩
  have HS : Hid (∀ w', Bw (w.heap.size + 4) W w' → w'.cell? ⟨w.heap.size, 0, none⟩ = some (.bool b) ∧ w'.cell? ⟨w.heap.size, 1, none⟩ = some (.slice A n c) ∧ w'.cell? ⟨w.heap.size + 1, 0, none⟩ = some (.bool b') ∧ w'.cell? ⟨w.heap.size + 1, 1, none⟩ = some (.slice A' n' c')) := by
    intro w' hb
    have e0 := hb.bx ka (by omega)
    have e1 := hb.bx kb (by omega)
    exact ⟨e0.1, e0.2, e1.1, e1.2⟩
  go_cut [7, 8] (fun s5 s6 wx => Two (w.heap.size + 4) W z y k j s5 s6 wx)
  case first =>
    clear ka kb
    go_region_held3 (fun w' => w'.cell? ⟨w.heap.size, 0, none⟩ = some (.bool b) ∧ w'.cell? ⟨w.heap.size, 1, none⟩ = some (.slice A n c) ∧ w'.cell? ⟨w.heap.size + 1, 0, none⟩ = some (.bool b') ∧ w'.cell? ⟨w.heap.size + 1, 1, none⟩ = some (.slice A' n' c'))
      (first | exact HS.out _ hs | (refine HS.out _ ?_; repeat (first | exact hs | refine Bw.drew ?_ | exact hs.up ‹_› | refine Bw.alloc ?_ _ | refine Bw.set ?_ _ (by first | omega | (simp; omega)) _)))
      (first
        | (go_at_call 16; (first | (with_reducible refine (rnorm_i h.drew ?_).mono ?_) | (with_reducible refine (rnorm_i (h.below (below_alloc _ _)).drew ?_).mono ?_) | (with_reducible refine (rnorm_i ((h.below (below_alloc _ _)).below (below_alloc _ _)).drew ?_).mono ?_)); omega; rintro e w1 ⟨v1, rfl, z1, bb⟩; (first | have hu := hu.drew.below bb | have hu := (hu.below (below_alloc _ _)).drew.below bb | have hu := ((hu.below (below_alloc _ _)).below (below_alloc _ _)).drew.below bb); (first | have hs := hs.drew.up bb | have hs := (hs.alloc _).drew.up bb | have hs := ((hs.alloc _).alloc _).drew.up bb); have s1 := hs.2; (first | (have p1 := ((Rx.new _ W.heap.size (by rfl)).below (below_alloc _ _)).drew.below bb; have p2 := (Rx.new _ (W.heap.size + 1) (by simp)).drew.below bb) | have p1 := (Rx.new _ W.heap.size (by rfl)).drew.below bb | skip); (try obtain ⟨g1, g2, g3⟩ := p1.apart); (try obtain ⟨g4, g5, g6⟩ := p2.apart); clear bb h)
        | (go_at_call 16; (first | (with_reducible refine (rnorm_i hu ?_).mono ?_) | (with_reducible refine (rnorm_i (hu.below (below_alloc _ _)) ?_).mono ?_) | (with_reducible refine (rnorm_i ((hu.below (below_alloc _ _)).below (below_alloc _ _)) ?_).mono ?_)); omega; rintro e w2 ⟨v2, rfl, z2, bb⟩; (first | have z1 := z1.below bb | have z1 := (z1.below (below_alloc _ _)).below bb | have z1 := ((z1.below (below_alloc _ _)).below (below_alloc _ _)).below bb); (first | have hs := hs.up bb | have hs := (hs.alloc _).up bb | have hs := ((hs.alloc _).alloc _).up bb); have s2 := hs.2; (try (first | have p1 := p1.below bb | have p1 := (p1.below (below_alloc _ _)).below bb | have p1 := ((p1.below (below_alloc _ _)).below (below_alloc _ _)).below bb)); (try (first | have p2 := p2.below bb | have p2 := (p2.below (below_alloc _ _)).below bb | have p2 := ((p2.below (below_alloc _ _)).below (below_alloc _ _)).below bb)); (first | (have q1 := ((Rx.new _ w1.heap.size (by rfl)).below (below_alloc _ _)).below bb; have q2 := (Rx.new _ (w1.heap.size + 1) (by simp)).below bb) | have q1 := (Rx.new _ w1.heap.size (by rfl)).below bb | skip); (try (have f1h := p1.1; obtain ⟨f1e, f1f, f1g⟩ := p1.apart; have f1i := p1.2.1; have f1j := p1.2.2.1; have f1k := p1.2.2.2)); (try (have f2h := p2.1; obtain ⟨f2e, f2f, f2g⟩ := p2.apart; have f2i := p2.2.1; have f2j := p2.2.2.1; have f2k := p2.2.2.2)); (try (have d1h := q1.1; obtain ⟨d1e, d1f, d1g⟩ := q1.apart; have d1i := q1.2.1; have d1j := q1.2.2.1; have d1k := q1.2.2.2)); (try (have d2h := q2.1; obtain ⟨d2e, d2f, d2g⟩ := q2.apart; have d2i := q2.2.1; have d2j := q2.2.2.1; have d2k := q2.2.2.2)); obtain ⟨b1, A1, n1, c1, rfl, z1⟩ := z1.cells; obtain ⟨b2, A2, n2, c2, rfl, z2⟩ := z2.cells; clear bb hu))
    all_goals
      go_wp2_with fail
      go_meet
      refine ⟨_, _, b1, A1, n1, c1, b2, A2, n2, c2, rfl, rfl, ?_, ?_, ?_, ?_, ?_⟩
      all_goals
        repeat' (first | with_reducible assumption | (with_reducible exact Bx.new _ _ (by simp) _ _) | (with_reducible refine Bx.later ?_ _) | (with_reducible refine Rx.written ?_ _ _) | (with_reducible refine Bx.ret ?_ (by omega) _ _) | (with_reducible refine Iz.later ?_ _) | (with_reducible refine Iz.ret ?_ ?_ _ _) | (with_reducible refine Iv.later ?_ _) | (with_reducible refine Iv.ret ?_ ?_ _ _) | (with_reducible refine Rx.ret ?_ (by omega) _ _) | (with_reducible refine Bw.alloc ?_ _) | (with_reducible refine Bw.ret ?_ (by omega) _ _))
  case rest =>
    obtain ⟨gx, gy, bx, Ax, nx, cx, by', Ay, ny, cy, rfl, rfl, kx, ky, zx, zy, hw⟩ := hcut
    have ka := hw.bx ka (by omega)
    have kb := hw.bx kb (by omega)
    have kq := hw.rx kq (by omega)
    have kr := hw.rx kr (by omega)
    clear HS
    have B0 := B0.trans (hw.1.mono (by omega))
    obtain ⟨m, zm, hz, h0⟩ := zx.parts
    obtain ⟨m', ym, hy, h0'⟩ := zy.parts
    clear zx zy ka kb h hu hw
    have HB := Lib.hid B0
    clear B0
    have hmy := sgn_abs by' m'
    rw [← hy] at hmy
    have HZ := Lib.hid hz
    have HY := Lib.hid hy
    clear hz hy h0 h0'
    by_cases hy0 : y = 0
    · have hm' : m' = 0 := by rw [hy0] at hmy; simpa using hmy.symm
      have Hy0 := Lib.hid hy0
      have Hm' := Lib.hid hm'
      have B0 := HB.out
      clear hy0 hmy hm'
      have kx0 := kx.1
      have kx1 := kx.2
      have ky0 := ky.1
      have ky1 := ky.2
      have kq0 := kq.1
      have kq1 := kq.2.1
      have kq2 := kq.2.2.1
      have kq3 := kq.2.2.2
      have kr0 := kr.1
      have kr1 := kr.2.1
      have kr2 := kr.2.2.1
      have kr3 := kr.2.2.2
      go_wp2_with fail
      refine (rdiv_n0 zm.nm ym.nm (by omega) Hm'.out).mono ?_
      clear kx0 kx1 ky0 ky1 kq0 kq1 kq2 kq3 kr0 kr1 kr2 kr3
      rintro e w10 ⟨rfl, bb⟩
      have zm := zm.below bb
      have ym := ym.below bb
      have kx := kx.below bb
      have ky := ky.below bb
      have kq := kq.below bb
      have kr := kr.below bb
      have B0 := B0.trans (bb.mono B0.size)
      clear bb
      have kx0 := kx.1
      have kx1 := kx.2
      have ky0 := ky.1
      have ky1 := ky.2
      have kq0 := kq.1
      have kq1 := kq.2.1
      have kq2 := kq.2.2.1
      have kq3 := kq.2.2.2
      have kr0 := kr.1
      have kr1 := kr.2.1
      have kr2 := kr.2.2.1
      have kr3 := kr.2.2.2
      go_wp2
      refine bodyPost_ret (v := .tuple #[.agg #[.bool false, .slice none 0 0], .agg #[.bool false, .slice none 0 0], .bool false]) (by simp [results, Tryd.results26, go_sem, kq0, kq1, kr0, kr1]) rfl (DEnd.zero Hy0.out ⟨rfl, below_ret (below_ret B0 (by omega) _ _) (by omega) _ _⟩)
    · have hp : 0 < m' := by rcases Nat.eq_zero_or_pos m' with h | h; exact absurd (by rw [HY.out, h, sgn_zero]) hy0; exact h
      have Hp := Lib.hid hp
      have Hy0 := Lib.hid hy0
      clear hy0 hmy hp
      cases bx
      · cases by'
        · skip
          have B0 := HB.out
          have kx0 := kx.1
          have kx1 := kx.2
          have ky0 := ky.1
          have ky1 := ky.2
          have kq0 := kq.1
          have kq1 := kq.2.1
          have kq2 := kq.2.2.1
          have kq3 := kq.2.2.2
          have kr0 := kr.1
          have kr1 := kr.2.1
          have kr2 := kr.2.2.1
          have kr3 := kr.2.2.2
          go_wp2_with fail
          refine (rdiv_n zm.nm ym.nm (by omega) (by omega) Hp.out).mono ?_
          clear kx0 kx1 ky0 ky1 kq0 kq1 kq2 kq3 kr0 kr1 kr2 kr3
          rintro e w10 ⟨v1, v2, rfl, z1, z2, bb⟩
          have zm := zm.below bb
          have ym := ym.below bb
          have kx := kx.below bb
          have ky := ky.below bb
          have kq := kq.below bb
          have kr := kr.below bb
          have B0 := B0.trans (bb.mono B0.size)
          clear bb
          obtain ⟨A2, n2, c2, rfl, _, _⟩ := z2.nm.form
          have z1 := z1.wide' (k' := k + 3) (by omega)
          have kx0 := kx.1
          have kx1 := kx.2
          have ky0 := ky.1
          have ky1 := ky.2
          have kq0 := kq.1
          have kq1 := kq.2.1
          have kq2 := kq.2.2.1
          have kq3 := kq.2.2.2
          have kr0 := kr.1
          have kr1 := kr.2.1
          have kr2 := kr.2.2.1
          have kr3 := kr.2.2.2
          go_wp2_with fail
          refine (make1_i false z1.nm (by omega) _ rfl).mono ?_
          clear kx0 kx1 ky0 ky1 kq0 kq1 kq2 kq3 kr0 kr1 kr2 kr3
          rintro e w11 ⟨vq, rfl, zq, bb⟩
          have kx := kx.below bb
          have ky := ky.below bb
          have kq := kq.below bb
          have kr := kr.below bb
          have z1 := z1.below bb
          have z2 := z2.below bb
          have B0 := B0.trans (bb.mono B0.size)
          clear bb
          obtain ⟨bq, Aq, nq, cq, rfl, zq⟩ := zq.cells
          have kx0 := kx.1
          have kx1 := kx.2
          have ky0 := ky.1
          have ky1 := ky.2
          have kq0 := kq.1
          have kq1 := kq.2.1
          have kq2 := kq.2.2.1
          have kq3 := kq.2.2.2
          have kr0 := kr.1
          have kr1 := kr.2.1
          have kr2 := kr.2.2.1
          have kr3 := kr.2.2.2
          go_wp2_with fail
          refine (make1_i false z2.nm (by omega) _ rfl).mono ?_
          clear kx0 kx1 ky0 ky1 kq0 kq1 kq2 kq3 kr0 kr1 kr2 kr3
          rintro e w12 ⟨vr, rfl, zr, bb⟩
          have kx := kx.below bb
          have ky := ky.below bb
          have kq := kq.below bb
          have kr := kr.below bb
          have z1 := z1.below bb
          have z2 := z2.below bb
          have zq := zq.below bb
          have B0 := B0.trans (bb.mono B0.size)
          clear bb
          obtain ⟨br, Ar, nr, cr, rfl, zr⟩ := zr.cells
          have kx0 := kx.1
          have kx1 := kx.2
          have ky0 := ky.1
          have ky1 := ky.2
          have kq0 := kq.1
          have kq1 := kq.2.1
          have kq2 := kq.2.2.1
          have kq3 := kq.2.2.2
          have kr0 := kr.1
          have kr1 := kr.2.1
          have kr2 := kr.2.2.1
          have kr3 := kr.2.2.2
          go_wp2
          refine bodyPost_ret (v := .tuple #[.agg #[.bool bq, .slice Aq nq cq], .agg #[.bool br, .slice Ar nr cr], .bool true]) (by simp [results, Tryd.results26, go_sem, kq0, kq1, kr0, kr1]) rfl (DEnd.some Hy0.out ⟨_, _, rfl, (zq.ret kq _ _).ret (kr.ret (by omega) _ _) _ _, (zr.ret kq _ _).ret (kr.ret (by omega) _ _) _ _, below_ret (below_ret B0 (by omega) _ _) (by omega) _ _⟩ (by rw [HZ.out, HY.out]; exact (div_p false false m m' Hp.out (.inl rfl)).1) (by rw [HZ.out, HY.out]; exact (div_p false false m m' Hp.out (.inl rfl)).2))
        · skip
          have B0 := HB.out
          have kx0 := kx.1
          have kx1 := kx.2
          have ky0 := ky.1
          have ky1 := ky.2
          have kq0 := kq.1
          have kq1 := kq.2.1
          have kq2 := kq.2.2.1
          have kq3 := kq.2.2.2
          have kr0 := kr.1
          have kr1 := kr.2.1
          have kr2 := kr.2.2.1
          have kr3 := kr.2.2.2
          go_wp2_with fail
          refine (rdiv_n zm.nm ym.nm (by omega) (by omega) Hp.out).mono ?_
          clear kx0 kx1 ky0 ky1 kq0 kq1 kq2 kq3 kr0 kr1 kr2 kr3
          rintro e w10 ⟨v1, v2, rfl, z1, z2, bb⟩
          have zm := zm.below bb
          have ym := ym.below bb
          have kx := kx.below bb
          have ky := ky.below bb
          have kq := kq.below bb
          have kr := kr.below bb
          have B0 := B0.trans (bb.mono B0.size)
          clear bb
          obtain ⟨A2, n2, c2, rfl, _, _⟩ := z2.nm.form
          have z1 := z1.wide' (k' := k + 3) (by omega)
          have kx0 := kx.1
          have kx1 := kx.2
          have ky0 := ky.1
          have ky1 := ky.2
          have kq0 := kq.1
          have kq1 := kq.2.1
          have kq2 := kq.2.2.1
          have kq3 := kq.2.2.2
          have kr0 := kr.1
          have kr1 := kr.2.1
          have kr2 := kr.2.2.1
          have kr3 := kr.2.2.2
          go_wp2_with fail
          refine (make1_i true z1.nm (by omega) _ rfl).mono ?_
          clear kx0 kx1 ky0 ky1 kq0 kq1 kq2 kq3 kr0 kr1 kr2 kr3
          rintro e w11 ⟨vq, rfl, zq, bb⟩
          have kx := kx.below bb
          have ky := ky.below bb
          have kq := kq.below bb
          have kr := kr.below bb
          have z1 := z1.below bb
          have z2 := z2.below bb
          have B0 := B0.trans (bb.mono B0.size)
          clear bb
          obtain ⟨bq, Aq, nq, cq, rfl, zq⟩ := zq.cells
          have kx0 := kx.1
          have kx1 := kx.2
          have ky0 := ky.1
          have ky1 := ky.2
          have kq0 := kq.1
          have kq1 := kq.2.1
          have kq2 := kq.2.2.1
          have kq3 := kq.2.2.2
          have kr0 := kr.1
          have kr1 := kr.2.1
          have kr2 := kr.2.2.1
          have kr3 := kr.2.2.2
          go_wp2_with fail
          refine (make1_i false z2.nm (by omega) _ rfl).mono ?_
          clear kx0 kx1 ky0 ky1 kq0 kq1 kq2 kq3 kr0 kr1 kr2 kr3
          rintro e w12 ⟨vr, rfl, zr, bb⟩
          have kx := kx.below bb
          have ky := ky.below bb
          have kq := kq.below bb
          have kr := kr.below bb
          have z1 := z1.below bb
          have z2 := z2.below bb
          have zq := zq.below bb
          have B0 := B0.trans (bb.mono B0.size)
          clear bb
          obtain ⟨br, Ar, nr, cr, rfl, zr⟩ := zr.cells
          have kx0 := kx.1
          have kx1 := kx.2
          have ky0 := ky.1
          have ky1 := ky.2
          have kq0 := kq.1
          have kq1 := kq.2.1
          have kq2 := kq.2.2.1
          have kq3 := kq.2.2.2
          have kr0 := kr.1
          have kr1 := kr.2.1
          have kr2 := kr.2.2.1
          have kr3 := kr.2.2.2
          go_wp2
          refine bodyPost_ret (v := .tuple #[.agg #[.bool bq, .slice Aq nq cq], .agg #[.bool br, .slice Ar nr cr], .bool true]) (by simp [results, Tryd.results26, go_sem, kq0, kq1, kr0, kr1]) rfl (DEnd.some Hy0.out ⟨_, _, rfl, (zq.ret kq _ _).ret (kr.ret (by omega) _ _) _ _, (zr.ret kq _ _).ret (kr.ret (by omega) _ _) _ _, below_ret (below_ret B0 (by omega) _ _) (by omega) _ _⟩ (by rw [HZ.out, HY.out]; exact (div_p false true m m' Hp.out (.inl rfl)).1) (by rw [HZ.out, HY.out]; exact (div_p false true m m' Hp.out (.inl rfl)).2))
      · cases by'
        · by_cases he : m % m' = 0
          · have HE := Lib.hid he
            clear he
            have B0 := HB.out
            have kx0 := kx.1
            have kx1 := kx.2
            have ky0 := ky.1
            have ky1 := ky.2
            have kq0 := kq.1
            have kq1 := kq.2.1
            have kq2 := kq.2.2.1
            have kq3 := kq.2.2.2
            have kr0 := kr.1
            have kr1 := kr.2.1
            have kr2 := kr.2.2.1
            have kr3 := kr.2.2.2
            go_wp2_with fail
            refine (rdiv_n zm.nm ym.nm (by omega) (by omega) Hp.out).mono ?_
            clear kx0 kx1 ky0 ky1 kq0 kq1 kq2 kq3 kr0 kr1 kr2 kr3
            rintro e w10 ⟨v1, v2, rfl, z1, z2, bb⟩
            have zm := zm.below bb
            have ym := ym.below bb
            have kx := kx.below bb
            have ky := ky.below bb
            have kq := kq.below bb
            have kr := kr.below bb
            have B0 := B0.trans (bb.mono B0.size)
            clear bb
            obtain ⟨A2, n2, c2, rfl, _, _⟩ := z2.nm.form
            have kx0 := kx.1
            have kx1 := kx.2
            have ky0 := ky.1
            have ky1 := ky.2
            have kq0 := kq.1
            have kq1 := kq.2.1
            have kq2 := kq.2.2.1
            have kq3 := kq.2.2.2
            have kr0 := kr.1
            have kr1 := kr.2.1
            have kr2 := kr.2.2.1
            have kr3 := kr.2.2.2
            go_wp2_with fail
            refine (rnorm_n z2.nm (by omega)).mono ?_
            clear kx0 kx1 ky0 ky1 kq0 kq1 kq2 kq3 kr0 kr1 kr2 kr3
            rintro e w11 ⟨v3, rfl, z3, bb⟩
            have ym := ym.below bb
            have kx := kx.below bb
            have ky := ky.below bb
            have kq := kq.below bb
            have kr := kr.below bb
            have z1 := z1.below bb
            have z2 := z2.below bb
            have B0 := B0.trans (bb.mono B0.size)
            clear bb
            have z3 := z3.nz
            obtain ⟨A3, n3, c3, rfl, _, _⟩ := z3.nm.form
            have hn3 := z3.len0.1.2 HE.out
            have Hn3 : ¬ 0 < n3 := by omega
            clear hn3
            have z1 := z1.wide' (k' := k + 3) (by omega)
            have kx0 := kx.1
            have kx1 := kx.2
            have ky0 := ky.1
            have ky1 := ky.2
            have kq0 := kq.1
            have kq1 := kq.2.1
            have kq2 := kq.2.2.1
            have kq3 := kq.2.2.2
            have kr0 := kr.1
            have kr1 := kr.2.1
            have kr2 := kr.2.2.1
            have kr3 := kr.2.2.2
            go_wp2_with fail
            refine (make1_i true z1.nm (by omega) _ rfl).mono ?_
            clear kx0 kx1 ky0 ky1 kq0 kq1 kq2 kq3 kr0 kr1 kr2 kr3
            rintro e w12 ⟨vq, rfl, zq, bb⟩
            have kx := kx.below bb
            have ky := ky.below bb
            have kq := kq.below bb
            have kr := kr.below bb
            have z1 := z1.below bb
            have z2 := z2.below bb
            have B0 := B0.trans (bb.mono B0.size)
            clear bb
            obtain ⟨bq, Aq, nq, cq, rfl, zq⟩ := zq.cells
            have kx0 := kx.1
            have kx1 := kx.2
            have ky0 := ky.1
            have ky1 := ky.2
            have kq0 := kq.1
            have kq1 := kq.2.1
            have kq2 := kq.2.2.1
            have kq3 := kq.2.2.2
            have kr0 := kr.1
            have kr1 := kr.2.1
            have kr2 := kr.2.2.1
            have kr3 := kr.2.2.2
            go_wp2_with fail
            refine (make1_i false z2.nm (by omega) _ rfl).mono ?_
            clear kx0 kx1 ky0 ky1 kq0 kq1 kq2 kq3 kr0 kr1 kr2 kr3
            rintro e w13 ⟨vr, rfl, zr, bb⟩
            have kx := kx.below bb
            have ky := ky.below bb
            have kq := kq.below bb
            have kr := kr.below bb
            have z1 := z1.below bb
            have z2 := z2.below bb
            have zq := zq.below bb
            have B0 := B0.trans (bb.mono B0.size)
            clear bb
            obtain ⟨br, Ar, nr, cr, rfl, zr⟩ := zr.cells
            have kx0 := kx.1
            have kx1 := kx.2
            have ky0 := ky.1
            have ky1 := ky.2
            have kq0 := kq.1
            have kq1 := kq.2.1
            have kq2 := kq.2.2.1
            have kq3 := kq.2.2.2
            have kr0 := kr.1
            have kr1 := kr.2.1
            have kr2 := kr.2.2.1
            have kr3 := kr.2.2.2
            go_wp2
            refine bodyPost_ret (v := .tuple #[.agg #[.bool bq, .slice Aq nq cq], .agg #[.bool br, .slice Ar nr cr], .bool true]) (by simp [results, Tryd.results26, go_sem, kq0, kq1, kr0, kr1]) rfl (DEnd.some Hy0.out ⟨_, _, rfl, (zq.ret kq _ _).ret (kr.ret (by omega) _ _) _ _, (zr.ret kq _ _).ret (kr.ret (by omega) _ _) _ _, below_ret (below_ret B0 (by omega) _ _) (by omega) _ _⟩ (by rw [HZ.out, HY.out]; exact (div_p true false m m' Hp.out (.inr HE.out)).1) (by rw [HZ.out, HY.out]; exact (div_p true false m m' Hp.out (.inr HE.out)).2))
          · have HE : Hid (0 < m % m') := by show 0 < _; omega
            have HL : Hid (m % m' ≤ m') := Nat.le_of_lt (Nat.mod_lt m Hp.out)
            clear he
            have B0 := HB.out
            have kx0 := kx.1
            have kx1 := kx.2
            have ky0 := ky.1
            have ky1 := ky.2
            have kq0 := kq.1
            have kq1 := kq.2.1
            have kq2 := kq.2.2.1
            have kq3 := kq.2.2.2
            have kr0 := kr.1
            have kr1 := kr.2.1
            have kr2 := kr.2.2.1
            have kr3 := kr.2.2.2
            go_wp2_with fail
            refine (rdiv_n zm.nm ym.nm (by omega) (by omega) Hp.out).mono ?_
            clear kx0 kx1 ky0 ky1 kq0 kq1 kq2 kq3 kr0 kr1 kr2 kr3
            rintro e w10 ⟨v1, v2, rfl, z1, z2, bb⟩
            have zm := zm.below bb
            have ym := ym.below bb
            have kx := kx.below bb
            have ky := ky.below bb
            have kq := kq.below bb
            have kr := kr.below bb
            have B0 := B0.trans (bb.mono B0.size)
            clear bb
            obtain ⟨A2, n2, c2, rfl, _, _⟩ := z2.nm.form
            have kx0 := kx.1
            have kx1 := kx.2
            have ky0 := ky.1
            have ky1 := ky.2
            have kq0 := kq.1
            have kq1 := kq.2.1
            have kq2 := kq.2.2.1
            have kq3 := kq.2.2.2
            have kr0 := kr.1
            have kr1 := kr.2.1
            have kr2 := kr.2.2.1
            have kr3 := kr.2.2.2
            go_wp2_with fail
            refine (rnorm_n z2.nm (by omega)).mono ?_
            clear kx0 kx1 ky0 ky1 kq0 kq1 kq2 kq3 kr0 kr1 kr2 kr3
            rintro e w11 ⟨v3, rfl, z3, bb⟩
            have ym := ym.below bb
            have kx := kx.below bb
            have ky := ky.below bb
            have kq := kq.below bb
            have kr := kr.below bb
            have z1 := z1.below bb
            have z2 := z2.below bb
            have B0 := B0.trans (bb.mono B0.size)
            clear bb
            have z3 := z3.nz
            obtain ⟨A3, n3, c3, rfl, _, _⟩ := z3.nm.form
            have hn3 : 0 < n3 := by have h1 := z3.len0.1.1; have h2 := HE.out; omega
            have kx0 := kx.1
            have kx1 := kx.2
            have ky0 := ky.1
            have ky1 := ky.2
            have kq0 := kq.1
            have kq1 := kq.2.1
            have kq2 := kq.2.2.1
            have kq3 := kq.2.2.2
            have kr0 := kr.1
            have kr1 := kr.2.1
            have kr2 := kr.2.2.1
            have kr3 := kr.2.2.2
            go_wp2_with fail
            refine (rof_z' 1 1 rfl (by omega)).mono ?_
            clear kx0 kx1 ky0 ky1 kq0 kq1 kq2 kq3 kr0 kr1 kr2 kr3
            rintro e w12 ⟨v4, rfl, z4, bb⟩
            have ym := ym.below bb
            have kx := kx.below bb
            have ky := ky.below bb
            have kq := kq.below bb
            have kr := kr.below bb
            have z1 := z1.below bb
            have z2 := z2.below bb
            have B0 := B0.trans (bb.mono B0.size)
            clear bb
            have kx0 := kx.1
            have kx1 := kx.2
            have ky0 := ky.1
            have ky1 := ky.2
            have kq0 := kq.1
            have kq1 := kq.2.1
            have kq2 := kq.2.2.1
            have kq3 := kq.2.2.2
            have kr0 := kr.1
            have kr1 := kr.2.1
            have kr2 := kr.2.2.1
            have kr3 := kr.2.2.2
            go_wp2_with fail
            refine (radd_n z1.nm z4.nm (by omega) (by omega)).mono ?_
            clear kx0 kx1 ky0 ky1 kq0 kq1 kq2 kq3 kr0 kr1 kr2 kr3
            rintro e w13 ⟨v5, rfl, z5, bb⟩
            have ym := ym.below bb
            have kx := kx.below bb
            have ky := ky.below bb
            have kq := kq.below bb
            have kr := kr.below bb
            have z1 := z1.below bb
            have z2 := z2.below bb
            have z4 := z4.below bb
            have B0 := B0.trans (bb.mono B0.size)
            clear bb
            have z5 := z5.nz
            have kx0 := kx.1
            have kx1 := kx.2
            have ky0 := ky.1
            have ky1 := ky.2
            have kq0 := kq.1
            have kq1 := kq.2.1
            have kq2 := kq.2.2.1
            have kq3 := kq.2.2.2
            have kr0 := kr.1
            have kr1 := kr.2.1
            have kr2 := kr.2.2.1
            have kr3 := kr.2.2.2
            go_wp2_with fail
            refine (rsub_n ym.nm z2.nm (by omega) (by omega) HL.out).mono ?_
            clear kx0 kx1 ky0 ky1 kq0 kq1 kq2 kq3 kr0 kr1 kr2 kr3
            rintro e w14 ⟨v6, rfl, z6, bb⟩
            have ym := ym.below bb
            have kx := kx.below bb
            have ky := ky.below bb
            have kq := kq.below bb
            have kr := kr.below bb
            have z2 := z2.below bb
            have z5 := z5.below bb
            have B0 := B0.trans (bb.mono B0.size)
            clear bb
            have z6 := z6.nz
            have z5 := z5.wide' (k' := k + 3) (by omega)
            have kx0 := kx.1
            have kx1 := kx.2
            have ky0 := ky.1
            have ky1 := ky.2
            have kq0 := kq.1
            have kq1 := kq.2.1
            have kq2 := kq.2.2.1
            have kq3 := kq.2.2.2
            have kr0 := kr.1
            have kr1 := kr.2.1
            have kr2 := kr.2.2.1
            have kr3 := kr.2.2.2
            go_wp2_with fail
            refine (make1_i true z5.nm (by omega) _ rfl).mono ?_
            clear kx0 kx1 ky0 ky1 kq0 kq1 kq2 kq3 kr0 kr1 kr2 kr3
            rintro e w15 ⟨vq, rfl, zq, bb⟩
            have kx := kx.below bb
            have ky := ky.below bb
            have kq := kq.below bb
            have kr := kr.below bb
            have z5 := z5.below bb
            have z6 := z6.below bb
            have B0 := B0.trans (bb.mono B0.size)
            clear bb
            obtain ⟨bq, Aq, nq, cq, rfl, zq⟩ := zq.cells
            have kx0 := kx.1
            have kx1 := kx.2
            have ky0 := ky.1
            have ky1 := ky.2
            have kq0 := kq.1
            have kq1 := kq.2.1
            have kq2 := kq.2.2.1
            have kq3 := kq.2.2.2
            have kr0 := kr.1
            have kr1 := kr.2.1
            have kr2 := kr.2.2.1
            have kr3 := kr.2.2.2
            go_wp2_with fail
            refine (make1_i false z6.nm (by omega) _ rfl).mono ?_
            clear kx0 kx1 ky0 ky1 kq0 kq1 kq2 kq3 kr0 kr1 kr2 kr3
            rintro e w16 ⟨vr, rfl, zr, bb⟩
            have kx := kx.below bb
            have ky := ky.below bb
            have kq := kq.below bb
            have kr := kr.below bb
            have z5 := z5.below bb
            have z6 := z6.below bb
            have zq := zq.below bb
            have B0 := B0.trans (bb.mono B0.size)
            clear bb
            obtain ⟨br, Ar, nr, cr, rfl, zr⟩ := zr.cells
            have kx0 := kx.1
            have kx1 := kx.2
            have ky0 := ky.1
            have ky1 := ky.2
            have kq0 := kq.1
            have kq1 := kq.2.1
            have kq2 := kq.2.2.1
            have kq3 := kq.2.2.2
            have kr0 := kr.1
            have kr1 := kr.2.1
            have kr2 := kr.2.2.1
            have kr3 := kr.2.2.2
            go_wp2
            refine bodyPost_ret (v := .tuple #[.agg #[.bool bq, .slice Aq nq cq], .agg #[.bool br, .slice Ar nr cr], .bool true]) (by simp [results, Tryd.results26, go_sem, kq0, kq1, kr0, kr1]) rfl (DEnd.some Hy0.out ⟨_, _, rfl, (zq.ret kq _ _).ret (kr.ret (by omega) _ _) _ _, (zr.ret kq _ _).ret (kr.ret (by omega) _ _) _ _, below_ret (below_ret B0 (by omega) _ _) (by omega) _ _⟩ (by rw [HZ.out, HY.out]; exact (div_m' false m m' Hp.out HE.out).1) (by rw [HZ.out, HY.out]; exact (div_m' false m m' Hp.out HE.out).2))
        · by_cases he : m % m' = 0
          · have HE := Lib.hid he
            clear he
            have B0 := HB.out
            have kx0 := kx.1
            have kx1 := kx.2
            have ky0 := ky.1
            have ky1 := ky.2
            have kq0 := kq.1
            have kq1 := kq.2.1
            have kq2 := kq.2.2.1
            have kq3 := kq.2.2.2
            have kr0 := kr.1
            have kr1 := kr.2.1
            have kr2 := kr.2.2.1
            have kr3 := kr.2.2.2
            go_wp2_with fail
            refine (rdiv_n zm.nm ym.nm (by omega) (by omega) Hp.out).mono ?_
            clear kx0 kx1 ky0 ky1 kq0 kq1 kq2 kq3 kr0 kr1 kr2 kr3
            rintro e w10 ⟨v1, v2, rfl, z1, z2, bb⟩
            have zm := zm.below bb
            have ym := ym.below bb
            have kx := kx.below bb
            have ky := ky.below bb
            have kq := kq.below bb
            have kr := kr.below bb
            have B0 := B0.trans (bb.mono B0.size)
            clear bb
            obtain ⟨A2, n2, c2, rfl, _, _⟩ := z2.nm.form
            have kx0 := kx.1
            have kx1 := kx.2
            have ky0 := ky.1
            have ky1 := ky.2
            have kq0 := kq.1
            have kq1 := kq.2.1
            have kq2 := kq.2.2.1
            have kq3 := kq.2.2.2
            have kr0 := kr.1
            have kr1 := kr.2.1
            have kr2 := kr.2.2.1
            have kr3 := kr.2.2.2
            go_wp2_with fail
            refine (rnorm_n z2.nm (by omega)).mono ?_
            clear kx0 kx1 ky0 ky1 kq0 kq1 kq2 kq3 kr0 kr1 kr2 kr3
            rintro e w11 ⟨v3, rfl, z3, bb⟩
            have ym := ym.below bb
            have kx := kx.below bb
            have ky := ky.below bb
            have kq := kq.below bb
            have kr := kr.below bb
            have z1 := z1.below bb
            have z2 := z2.below bb
            have B0 := B0.trans (bb.mono B0.size)
            clear bb
            have z3 := z3.nz
            obtain ⟨A3, n3, c3, rfl, _, _⟩ := z3.nm.form
            have hn3 := z3.len0.1.2 HE.out
            have Hn3 : ¬ 0 < n3 := by omega
            clear hn3
            have z1 := z1.wide' (k' := k + 3) (by omega)
            have kx0 := kx.1
            have kx1 := kx.2
            have ky0 := ky.1
            have ky1 := ky.2
            have kq0 := kq.1
            have kq1 := kq.2.1
            have kq2 := kq.2.2.1
            have kq3 := kq.2.2.2
            have kr0 := kr.1
            have kr1 := kr.2.1
            have kr2 := kr.2.2.1
            have kr3 := kr.2.2.2
            go_wp2_with fail
            refine (make1_i false z1.nm (by omega) _ rfl).mono ?_
            clear kx0 kx1 ky0 ky1 kq0 kq1 kq2 kq3 kr0 kr1 kr2 kr3
            rintro e w12 ⟨vq, rfl, zq, bb⟩
            have kx := kx.below bb
            have ky := ky.below bb
            have kq := kq.below bb
            have kr := kr.below bb
            have z1 := z1.below bb
            have z2 := z2.below bb
            have B0 := B0.trans (bb.mono B0.size)
            clear bb
            obtain ⟨bq, Aq, nq, cq, rfl, zq⟩ := zq.cells
            have kx0 := kx.1
            have kx1 := kx.2
            have ky0 := ky.1
            have ky1 := ky.2
            have kq0 := kq.1
            have kq1 := kq.2.1
            have kq2 := kq.2.2.1
            have kq3 := kq.2.2.2
            have kr0 := kr.1
            have kr1 := kr.2.1
            have kr2 := kr.2.2.1
            have kr3 := kr.2.2.2
            go_wp2_with fail
            refine (make1_i false z2.nm (by omega) _ rfl).mono ?_
            clear kx0 kx1 ky0 ky1 kq0 kq1 kq2 kq3 kr0 kr1 kr2 kr3
            rintro e w13 ⟨vr, rfl, zr, bb⟩
            have kx := kx.below bb
            have ky := ky.below bb
            have kq := kq.below bb
            have kr := kr.below bb
            have z1 := z1.below bb
            have z2 := z2.below bb
            have zq := zq.below bb
            have B0 := B0.trans (bb.mono B0.size)
            clear bb
            obtain ⟨br, Ar, nr, cr, rfl, zr⟩ := zr.cells
            have kx0 := kx.1
            have kx1 := kx.2
            have ky0 := ky.1
            have ky1 := ky.2
            have kq0 := kq.1
            have kq1 := kq.2.1
            have kq2 := kq.2.2.1
            have kq3 := kq.2.2.2
            have kr0 := kr.1
            have kr1 := kr.2.1
            have kr2 := kr.2.2.1
            have kr3 := kr.2.2.2
            go_wp2
            refine bodyPost_ret (v := .tuple #[.agg #[.bool bq, .slice Aq nq cq], .agg #[.bool br, .slice Ar nr cr], .bool true]) (by simp [results, Tryd.results26, go_sem, kq0, kq1, kr0, kr1]) rfl (DEnd.some Hy0.out ⟨_, _, rfl, (zq.ret kq _ _).ret (kr.ret (by omega) _ _) _ _, (zr.ret kq _ _).ret (kr.ret (by omega) _ _) _ _, below_ret (below_ret B0 (by omega) _ _) (by omega) _ _⟩ (by rw [HZ.out, HY.out]; exact (div_p true true m m' Hp.out (.inr HE.out)).1) (by rw [HZ.out, HY.out]; exact (div_p true true m m' Hp.out (.inr HE.out)).2))
          · have HE : Hid (0 < m % m') := by show 0 < _; omega
            have HL : Hid (m % m' ≤ m') := Nat.le_of_lt (Nat.mod_lt m Hp.out)
            clear he
            have B0 := HB.out
            have kx0 := kx.1
            have kx1 := kx.2
            have ky0 := ky.1
            have ky1 := ky.2
            have kq0 := kq.1
            have kq1 := kq.2.1
            have kq2 := kq.2.2.1
            have kq3 := kq.2.2.2
            have kr0 := kr.1
            have kr1 := kr.2.1
            have kr2 := kr.2.2.1
            have kr3 := kr.2.2.2
            go_wp2_with fail
            refine (rdiv_n zm.nm ym.nm (by omega) (by omega) Hp.out).mono ?_
            clear kx0 kx1 ky0 ky1 kq0 kq1 kq2 kq3 kr0 kr1 kr2 kr3
            rintro e w10 ⟨v1, v2, rfl, z1, z2, bb⟩
            have zm := zm.below bb
            have ym := ym.below bb
            have kx := kx.below bb
            have ky := ky.below bb
            have kq := kq.below bb
            have kr := kr.below bb
            have B0 := B0.trans (bb.mono B0.size)
            clear bb
            obtain ⟨A2, n2, c2, rfl, _, _⟩ := z2.nm.form
            have kx0 := kx.1
            have kx1 := kx.2
            have ky0 := ky.1
            have ky1 := ky.2
            have kq0 := kq.1
            have kq1 := kq.2.1
            have kq2 := kq.2.2.1
            have kq3 := kq.2.2.2
            have kr0 := kr.1
            have kr1 := kr.2.1
            have kr2 := kr.2.2.1
            have kr3 := kr.2.2.2
            go_wp2_with fail
            refine (rnorm_n z2.nm (by omega)).mono ?_
            clear kx0 kx1 ky0 ky1 kq0 kq1 kq2 kq3 kr0 kr1 kr2 kr3
            rintro e w11 ⟨v3, rfl, z3, bb⟩
            have ym := ym.below bb
            have kx := kx.below bb
            have ky := ky.below bb
            have kq := kq.below bb
            have kr := kr.below bb
            have z1 := z1.below bb
            have z2 := z2.below bb
            have B0 := B0.trans (bb.mono B0.size)
            clear bb
            have z3 := z3.nz
            obtain ⟨A3, n3, c3, rfl, _, _⟩ := z3.nm.form
            have hn3 : 0 < n3 := by have h1 := z3.len0.1.1; have h2 := HE.out; omega
            have kx0 := kx.1
            have kx1 := kx.2
            have ky0 := ky.1
            have ky1 := ky.2
            have kq0 := kq.1
            have kq1 := kq.2.1
            have kq2 := kq.2.2.1
            have kq3 := kq.2.2.2
            have kr0 := kr.1
            have kr1 := kr.2.1
            have kr2 := kr.2.2.1
            have kr3 := kr.2.2.2
            go_wp2_with fail
            refine (rof_z' 1 1 rfl (by omega)).mono ?_
            clear kx0 kx1 ky0 ky1 kq0 kq1 kq2 kq3 kr0 kr1 kr2 kr3
            rintro e w12 ⟨v4, rfl, z4, bb⟩
            have ym := ym.below bb
            have kx := kx.below bb
            have ky := ky.below bb
            have kq := kq.below bb
            have kr := kr.below bb
            have z1 := z1.below bb
            have z2 := z2.below bb
            have B0 := B0.trans (bb.mono B0.size)
            clear bb
            have kx0 := kx.1
            have kx1 := kx.2
            have ky0 := ky.1
            have ky1 := ky.2
            have kq0 := kq.1
            have kq1 := kq.2.1
            have kq2 := kq.2.2.1
            have kq3 := kq.2.2.2
            have kr0 := kr.1
            have kr1 := kr.2.1
            have kr2 := kr.2.2.1
            have kr3 := kr.2.2.2
            go_wp2_with fail
            refine (radd_n z1.nm z4.nm (by omega) (by omega)).mono ?_
            clear kx0 kx1 ky0 ky1 kq0 kq1 kq2 kq3 kr0 kr1 kr2 kr3
            rintro e w13 ⟨v5, rfl, z5, bb⟩
            have ym := ym.below bb
            have kx := kx.below bb
            have ky := ky.below bb
            have kq := kq.below bb
            have kr := kr.below bb
            have z1 := z1.below bb
            have z2 := z2.below bb
            have z4 := z4.below bb
            have B0 := B0.trans (bb.mono B0.size)
            clear bb
            have z5 := z5.nz
            have kx0 := kx.1
            have kx1 := kx.2
            have ky0 := ky.1
            have ky1 := ky.2
            have kq0 := kq.1
            have kq1 := kq.2.1
            have kq2 := kq.2.2.1
            have kq3 := kq.2.2.2
            have kr0 := kr.1
            have kr1 := kr.2.1
            have kr2 := kr.2.2.1
            have kr3 := kr.2.2.2
            go_wp2_with fail
            refine (rsub_n ym.nm z2.nm (by omega) (by omega) HL.out).mono ?_
            clear kx0 kx1 ky0 ky1 kq0 kq1 kq2 kq3 kr0 kr1 kr2 kr3
            rintro e w14 ⟨v6, rfl, z6, bb⟩
            have ym := ym.below bb
            have kx := kx.below bb
            have ky := ky.below bb
            have kq := kq.below bb
            have kr := kr.below bb
            have z2 := z2.below bb
            have z5 := z5.below bb
            have B0 := B0.trans (bb.mono B0.size)
            clear bb
            have z6 := z6.nz
            have z5 := z5.wide' (k' := k + 3) (by omega)
            have kx0 := kx.1
            have kx1 := kx.2
            have ky0 := ky.1
            have ky1 := ky.2
            have kq0 := kq.1
            have kq1 := kq.2.1
            have kq2 := kq.2.2.1
            have kq3 := kq.2.2.2
            have kr0 := kr.1
            have kr1 := kr.2.1
            have kr2 := kr.2.2.1
            have kr3 := kr.2.2.2
            go_wp2_with fail
            refine (make1_i false z5.nm (by omega) _ rfl).mono ?_
            clear kx0 kx1 ky0 ky1 kq0 kq1 kq2 kq3 kr0 kr1 kr2 kr3
            rintro e w15 ⟨vq, rfl, zq, bb⟩
            have kx := kx.below bb
            have ky := ky.below bb
            have kq := kq.below bb
            have kr := kr.below bb
            have z5 := z5.below bb
            have z6 := z6.below bb
            have B0 := B0.trans (bb.mono B0.size)
            clear bb
            obtain ⟨bq, Aq, nq, cq, rfl, zq⟩ := zq.cells
            have kx0 := kx.1
            have kx1 := kx.2
            have ky0 := ky.1
            have ky1 := ky.2
            have kq0 := kq.1
            have kq1 := kq.2.1
            have kq2 := kq.2.2.1
            have kq3 := kq.2.2.2
            have kr0 := kr.1
            have kr1 := kr.2.1
            have kr2 := kr.2.2.1
            have kr3 := kr.2.2.2
            go_wp2_with fail
            refine (make1_i false z6.nm (by omega) _ rfl).mono ?_
            clear kx0 kx1 ky0 ky1 kq0 kq1 kq2 kq3 kr0 kr1 kr2 kr3
            rintro e w16 ⟨vr, rfl, zr, bb⟩
            have kx := kx.below bb
            have ky := ky.below bb
            have kq := kq.below bb
            have kr := kr.below bb
            have z5 := z5.below bb
            have z6 := z6.below bb
            have zq := zq.below bb
            have B0 := B0.trans (bb.mono B0.size)
            clear bb
            obtain ⟨br, Ar, nr, cr, rfl, zr⟩ := zr.cells
            have kx0 := kx.1
            have kx1 := kx.2
            have ky0 := ky.1
            have ky1 := ky.2
            have kq0 := kq.1
            have kq1 := kq.2.1
            have kq2 := kq.2.2.1
            have kq3 := kq.2.2.2
            have kr0 := kr.1
            have kr1 := kr.2.1
            have kr2 := kr.2.2.1
            have kr3 := kr.2.2.2
            go_wp2
            refine bodyPost_ret (v := .tuple #[.agg #[.bool bq, .slice Aq nq cq], .agg #[.bool br, .slice Ar nr cr], .bool true]) (by simp [results, Tryd.results26, go_sem, kq0, kq1, kr0, kr1]) rfl (DEnd.some Hy0.out ⟨_, _, rfl, (zq.ret kq _ _).ret (kr.ret (by omega) _ _) _ _, (zr.ret kq _ _).ret (kr.ret (by omega) _ _) _ _, below_ret (below_ret B0 (by omega) _ _) (by omega) _ _⟩ (by rw [HZ.out, HY.out]; exact (div_m' true m m' Hp.out HE.out).1) (by rw [HZ.out, HY.out]; exact (div_m' true m m' Hp.out HE.out).2))
theorem ridiv_i {w : World} {v u : Value} {z y : Int} {k j : Nat} (h : Iv w v z k) (hu : Iv w u y j) (hk : k ≤ 100) (hj : j ≤ 100) : Calls Tryd.prog 26 #[v, u] w (DEnd z y (k + 3) j w) := by
  have h' := h
  have hu' := hu
  obtain ⟨b, A, n, d, m, rfl, _⟩ := h'
  obtain ⟨b', A', n', d', m', rfl, _⟩ := hu'
  exact ridiv_x h hu hk hj
end Go.Proofs.YthcoemkbdllcfaaDoor
