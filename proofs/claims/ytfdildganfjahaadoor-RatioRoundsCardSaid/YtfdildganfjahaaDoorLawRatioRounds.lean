/-
  The walk of garmentlaw03.RatioRounds: it returns true, whatever the input.
-/
import Derived.Test.YtfdildganfjahaaDoorRatE
import Derived.Test.YtfdildganfjahaaDoorRatC
import Derived.Test.YtfdildganfjahaaDoorRatV
import Derived.Deep.RegionWith
namespace Go.Proofs.YtfdildganfjahaaDoor
open Go.RowKit
attribute [local go_sem ↓] Go.wp_at_zero Go.wp_at_succ
set_option linter.unusedVariables false

set_option maxRecDepth 20000 in
set_option maxHeartbeats 8000000 in
theorem ratioRounds_long_a {ba : Bool} {Aa : Option Addr} {na ca : Nat} {Ba : Option Addr} {ma da : Nat} (n : Int) (w : World) (hl : 8 < na ∨ 8 < ma) (ht : Tab w) :
    Calls Tryd.prog 6 #[.agg #[.bool ba, .slice Aa na ca, .slice Ba ma da], .int .i64 n] w (BoolEnd true w) := by
  have HT := Lib.hid ht
  clear ht
  have B0 := below_a1 w (.cells #[.bool ba, .slice Aa na ca, .slice Ba ma da] 27)
  have ka := (Bq.new w (w.heap.size) (by simp) (.bool ba) (.slice Aa na ca) (.slice Ba ma da))
  go_enter Tryd.func6, Tryd.ntmps6
  have ka_0 := ka.c0
  have ka_1 := ka.c1
  have ka_2 := ka.c2
  go_wp2_with fail
  refine (light_not ba Aa na ca Ba ma da _ _ (by omega)).mono ?_
  clear ka_0 ka_1 ka_2
  rintro e w1 ⟨rfl, bb⟩
  have ka := ka.below bb
  have B0 := B0.trans (bb.mono B0.size)
  clear bb
  have ka_0 := ka.c0
  have ka_1 := ka.c1
  have ka_2 := ka.c2
  go_wp2_with fail
  refine (example_walk _ (HT.out.below B0)).mono ?_
  clear ka_0 ka_1 ka_2
  rintro e w2 ⟨rfl, bb⟩
  have ka := ka.below bb
  have B0 := B0.trans (bb.mono B0.size)
  clear bb
  go_wp2
  go_ret
  exact ⟨rfl, B0⟩
theorem prat_11 : ((1 : Int) : Rat) / ((1 : Int) : Rat) = 1 := by push_cast; grind
theorem prat_12 : ((1 : Int) : Rat) / ((2 : Int) : Rat) = 1 / 2 := by push_cast; grind
theorem prat_n (n : Int) : (n : Rat) / ((1 : Int) : Rat) = (n : Rat) := by push_cast; grind
theorem cmp_le (x y : Rat) (h : x ≤ y) : ¬ 0 < RatN.cmpQ x y := fun k => absurd ((RatN.cmpQ_gt x y).mp k) (by grind)
theorem cmp_ge (x y : Rat) (h : y ≤ x) : ¬ RatN.cmpQ x y < 0 := fun k => absurd ((RatN.cmpQ_lt x y).mp k) (by grind)
set_option maxRecDepth 20000 in
set_option maxHeartbeats 8000000 in
theorem ratioRounds_all {ba : Bool} {Aa : Option Addr} {na ca : Nat} {Ba : Option Addr} {ma da : Nat} {xa : Rat} (n : Int) (w : World) (ha : Qv w (.agg #[.bool ba, .slice Aa na ca, .slice Ba ma da]) xa na ma) (hn : -9223372036854775808 ≤ n) (hn' : n < 9223372036854775808) (h1 : na ≤ 8 ∧ ma ≤ 8) (ht : Tab w) :
    Calls Tryd.prog 6 #[.agg #[.bool ba, .slice Aa na ca, .slice Ba ma da], .int .i64 n] w (BoolEnd true w) := by
  have HT := Lib.hid ht
  clear ht
  obtain ⟨y, hy⟩ : ∃ y : Rat, (RatN.roundQ xa : Rat) - xa = y := ⟨_, rfl⟩
  obtain ⟨b1, b2, b3, b4⟩ := RatN.round_bounds xa
  rw [hy] at b1 b2 b3 b4
  obtain ⟨o1, e1⟩ : ∃ o, RatN.cmpQ (xa.floor : Rat) xa = o := ⟨_, rfl⟩
  obtain ⟨o2, e2⟩ : ∃ o, RatN.cmpQ xa ((xa.floor : Rat) + 1) = o := ⟨_, rfl⟩
  obtain ⟨o3, e3⟩ : ∃ o, RatN.cmpQ y (1 / 2) = o := ⟨_, rfl⟩
  obtain ⟨o4, e4⟩ : ∃ o, RatN.cmpQ (-(1 / 2)) y = o := ⟨_, rfl⟩
  obtain ⟨o5, e5⟩ : ∃ o, RatN.cmpQ xa 0 = o := ⟨_, rfl⟩
  obtain ⟨o6, e6⟩ : ∃ o, RatN.cmpQ y (-(1 / 2)) = o := ⟨_, rfl⟩
  have d1 : decide (0 < o1) = false := decide_eq_false (by rw [← e1]; exact cmp_le _ _ (RatN.q_floor_le xa))
  have d2 : decide (0 ≤ o2) = false := decide_eq_false (by have := (RatN.cmpQ_lt xa _).mpr (RatN.lt_floor xa); omega)
  have d3 : decide (0 < o3) = false := decide_eq_false (by rw [← e3]; exact cmp_le _ _ b1)
  have d4 : decide (0 < o4) = false := decide_eq_false (by rw [← e4]; exact cmp_le _ _ b2)
  have hpath : (o3 ≠ 0 ∧ o6 ≠ 0) ∨ (o3 = 0 ∧ ¬ o5 < 0 ∧ o6 ≠ 0) ∨ (o3 ≠ 0 ∧ o6 = 0 ∧ ¬ 0 < o5) := by
    have k3 : o3 = 0 → y = 1 / 2 := fun h => (RatN.cmpQ_zero y _).mp (by rw [e3, h])
    have k6 : o6 = 0 → y = -(1 / 2) := fun h => (RatN.cmpQ_zero y _).mp (by rw [e6, h])
    by_cases h3 : o3 = 0
    · have hne : o6 ≠ 0 := fun h6 => by have := k3 h3; have := k6 h6; grind
      refine .inr (.inl ⟨h3, ?_, hne⟩)
      rw [← e5]
      exact cmp_ge _ _ (by have := b3 (k3 h3); grind)
    · by_cases h6 : o6 = 0
      · refine .inr (.inr ⟨h3, h6, ?_⟩)
        rw [← e5]
        exact cmp_le _ _ (by have := b4 (k6 h6); grind)
      · exact .inl ⟨h3, h6⟩
  have hround : ((RatN.roundQ (-xa) : Int) : Rat) = -((RatN.roundQ xa : Int) : Rat) := by rw [RatN.roundQ_neg]; push_cast; rfl
  have hfloor : (((xa + (n : Rat)).floor : Int) : Rat) = (xa.floor : Rat) + (n : Rat) := by rw [RatN.floor_add]; push_cast; rfl
  have h0 : (1 : Rat) - 1 = 0 := by grind
  have HPATH := Lib.hid hpath
  have E1 := Lib.hid e1
  have E2 := Lib.hid e2
  have E3 := Lib.hid e3
  have E4 := Lib.hid e4
  have E5 := Lib.hid e5
  have E6 := Lib.hid e6
  have HROUND := Lib.hid hround
  have HFLOOR := Lib.hid hfloor
  have H0 := Lib.hid h0
  have HY := Lib.hid hy
  have HN := Lib.hid hn
  have HN1 := Lib.hid hn'
  clear e1 e2 e3 e4 e5 e6 hround hfloor h0 hy hpath b1 b2 b3 b4 hn hn'
  have B0 := below_a1 w (.cells #[.bool ba, .slice Aa na ca, .slice Ba ma da] 27)
  have ha := ha.below B0
  have ka := (Bq.new w (w.heap.size) (by simp) (.bool ba) (.slice Aa na ca) (.slice Ba ma da))
  go_enter Tryd.func6, Tryd.ntmps6
  have ka_0 := ka.c0
  have ka_1 := ka.c1
  have ka_2 := ka.c2
  go_wp2_with fail
  refine (light_yes ba Aa na ca Ba ma da _ _ (by omega) (by omega)).mono ?_
  clear ka_0 ka_1 ka_2
  rintro e w1 ⟨rfl, bb⟩
  have ha := ha.below bb
  have ka := ka.below bb
  have B0 := B0.trans (bb.mono B0.size)
  clear bb
  have ka_0 := ka.c0
  have ka_1 := ka.c1
  have ka_2 := ka.c2
  go_wp2_with fail
  refine (qof_p 1 1 (by decide) (by decide) (by decide) (by decide) _ (by decide) _ prat_11).mono ?_
  clear ka_0 ka_1 ka_2
  rintro e w2 ⟨bi, Ai, ni, ci, Bi, mi, di, rfl, zi, bb⟩
  have ha := ha.below bb
  have ka := ka.below bb
  have B0 := B0.trans (bb.mono B0.size)
  clear bb
  have ha := ha.below (below_alloc w2 (.cells #[.bool bi, .slice Ai ni ci, .slice Bi mi di] 27))
  have ka := ka.below (below_alloc w2 (.cells #[.bool bi, .slice Ai ni ci, .slice Bi mi di] 27))
  have zi := zi.below (below_alloc w2 (.cells #[.bool bi, .slice Ai ni ci, .slice Bi mi di] 27))
  have ki := Bq.new w2 (w2.heap.size) (by simp) (.bool bi) (.slice Ai ni ci) (.slice Bi mi di)
  have B0 := B0.trans ((below_alloc w2 (.cells #[.bool bi, .slice Ai ni ci, .slice Bi mi di] 27)).mono B0.size)
  have ka_0 := ka.c0
  have ka_1 := ka.c1
  have ka_2 := ka.c2
  have ki_0 := ki.c0
  have ki_1 := ki.c1
  have ki_2 := ki.c2
  go_wp2_with fail
  refine (qof_p 1 2 (by decide) (by decide) (by decide) (by decide) _ (by decide) _ prat_12).mono ?_
  clear ka_0 ka_1 ka_2 ki_0 ki_1 ki_2
  rintro e w3 ⟨bf, Af, nf, cf, Bf, mf, df, rfl, zf, bb⟩
  have ha := ha.below bb
  have ka := ka.below bb
  have zi := zi.below bb
  have ki := ki.below bb
  have B0 := B0.trans (bb.mono B0.size)
  clear bb
  have ha := ha.below (below_alloc w3 (.cells #[.bool bf, .slice Af nf cf, .slice Bf mf df] 27))
  have ka := ka.below (below_alloc w3 (.cells #[.bool bf, .slice Af nf cf, .slice Bf mf df] 27))
  have zi := zi.below (below_alloc w3 (.cells #[.bool bf, .slice Af nf cf, .slice Bf mf df] 27))
  have ki := ki.below (below_alloc w3 (.cells #[.bool bf, .slice Af nf cf, .slice Bf mf df] 27))
  have zf := zf.below (below_alloc w3 (.cells #[.bool bf, .slice Af nf cf, .slice Bf mf df] 27))
  have kf := Bq.new w3 (w3.heap.size) (by simp) (.bool bf) (.slice Af nf cf) (.slice Bf mf df)
  have B0 := B0.trans ((below_alloc w3 (.cells #[.bool bf, .slice Af nf cf, .slice Bf mf df] 27)).mono B0.size)
  go_upto_region 5 with fail
  obtain ⟨W5, hW⟩ : ∃ W0, (w3.alloc (.cells #[.bool bf, .slice Af nf cf, .slice Bf mf df] 27)) = W0 := ⟨_, rfl⟩
  rw [hW] at ha ka zi ki zf kf B0 ⊢
  clear hW
  have lka := ka.lt
  have lki := ki.lt
  have lkf := kf.lt
  have hs : Bw (W5.heap.size) W5 W5 := ⟨Below.refl _ _, Nat.le_refl _⟩
  have HS : Hid (∀ w', Bw (W5.heap.size) W5 w' → w'.cell? ⟨w.heap.size, 0, none⟩ = some (.bool ba) ∧ w'.cell? ⟨w.heap.size, 1, none⟩ = some (.slice Aa na ca) ∧ w'.cell? ⟨w.heap.size, 2, none⟩ = some (.slice Ba ma da) ∧ w'.cell? ⟨w2.heap.size, 0, none⟩ = some (.bool bi) ∧ w'.cell? ⟨w2.heap.size, 1, none⟩ = some (.slice Ai ni ci) ∧ w'.cell? ⟨w2.heap.size, 2, none⟩ = some (.slice Bi mi di) ∧ w'.cell? ⟨w3.heap.size, 0, none⟩ = some (.bool bf) ∧ w'.cell? ⟨w3.heap.size, 1, none⟩ = some (.slice Af nf cf) ∧ w'.cell? ⟨w3.heap.size, 2, none⟩ = some (.slice Bf mf df)) := by
    intro w' hb
    have e0 := hb.bq ka (by omega)
    have e1 := hb.bq ki (by omega)
    have e2 := hb.bq kf (by omega)
    exact ⟨e0.c0, e0.c1, e0.c2, e1.c0, e1.c1, e1.c2, e2.c0, e2.c1, e2.c2⟩
  go_cut [9, 10] (fun s9 s10 wx => TwoQ (W5.heap.size) W5 (xa.floor : Rat) ((RatN.roundQ xa : Int) : Rat) (na + 3) 1 (max na ma + 5) 1 s9 s10 wx)
  case first => as_aux_lemma =>
    clear HPATH E1 E2 E3 E4 E5 E6 HROUND HFLOOR H0 HY HN HN1 d1 d2 d3 d4 zi zf HT B0
    clear ka ki kf
    go_region_held3 (fun w' => w'.cell? ⟨w.heap.size, 0, none⟩ = some (.bool ba) ∧ w'.cell? ⟨w.heap.size, 1, none⟩ = some (.slice Aa na ca) ∧ w'.cell? ⟨w.heap.size, 2, none⟩ = some (.slice Ba ma da) ∧ w'.cell? ⟨w2.heap.size, 0, none⟩ = some (.bool bi) ∧ w'.cell? ⟨w2.heap.size, 1, none⟩ = some (.slice Ai ni ci) ∧ w'.cell? ⟨w2.heap.size, 2, none⟩ = some (.slice Bi mi di) ∧ w'.cell? ⟨w3.heap.size, 0, none⟩ = some (.bool bf) ∧ w'.cell? ⟨w3.heap.size, 1, none⟩ = some (.slice Af nf cf) ∧ w'.cell? ⟨w3.heap.size, 2, none⟩ = some (.slice Bf mf df))
      (first | with_reducible exact HS.out _ hs | (with_reducible refine HS.out _ ?_; repeat (first | with_reducible exact hs | with_reducible refine Bw.drew ?_ | with_reducible refine Bw.alloc ?_ _ | with_reducible refine Bw.set ?_ _ (by first | omega | (simp; done) | (simp; omega)) _)))
      (first
        | (go_at_call 20; (first | (with_reducible refine (qfloor_q ha.drew ?_ ?_).mono ?_) | (with_reducible refine (qfloor_q (ha.below (below_alloc _ _)).drew ?_ ?_).mono ?_) | (with_reducible refine (qfloor_q ((ha.below (below_alloc _ _)).below (below_alloc _ _)).drew ?_ ?_).mono ?_)); omega; omega; rintro e w70 ⟨v11, rfl, z11, bb⟩; (first | have ha := ha.drew.below bb | have ha := (ha.below (below_alloc _ _)).drew.below bb | have ha := ((ha.below (below_alloc _ _)).below (below_alloc _ _)).drew.below bb); (first | have hs := hs.drew.up bb | have hs := (hs.alloc _).drew.up bb | have hs := ((hs.alloc _).alloc _).drew.up bb); have z_0 := hs.2; (first | (have p0_0 := (((Rq.new _ (W5.heap.size) (by first | rfl | simp)).below (below_alloc _ _))).drew.below bb; have p0_1 := ((Rq.new _ (W5.heap.size + 1) (by first | rfl | simp))).drew.below bb) | (have p0_0 := ((Rq.new _ (W5.heap.size) (by first | rfl | simp))).drew.below bb) | skip); (try obtain ⟨p0_0_a, p0_0_b, p0_0_c⟩ := p0_0.apart); (try obtain ⟨p0_1_a, p0_1_b, p0_1_c⟩ := p0_1.apart); clear bb)
        | (go_at_call 25; (first | (with_reducible refine (of_q z11).mono ?_) | (with_reducible refine (of_q (z11.below (below_alloc _ _))).mono ?_) | (with_reducible refine (of_q ((z11.below (below_alloc _ _)).below (below_alloc _ _))).mono ?_)); rintro e w71 ⟨bl, Al, nl, cl, Bl, ml, dl, rfl, zl, bb⟩; (first | have ha := ha.below bb | have ha := (ha.below (below_alloc _ _)).below bb | have ha := ((ha.below (below_alloc _ _)).below (below_alloc _ _)).below bb); (first | have hs := hs.up bb | have hs := (hs.alloc _).up bb | have hs := ((hs.alloc _).alloc _).up bb); have z_1 := hs.2; (try (first | have p0_0 := p0_0.below bb | have p0_0 := (p0_0.below (below_alloc _ _)).below bb | have p0_0 := ((p0_0.below (below_alloc _ _)).below (below_alloc _ _)).below bb)); (try (first | have p0_1 := p0_1.below bb | have p0_1 := (p0_1.below (below_alloc _ _)).below bb | have p0_1 := ((p0_1.below (below_alloc _ _)).below (below_alloc _ _)).below bb)); (first | (have p1_0 := (((Rq.new _ (w70.heap.size) (by first | rfl | simp)).below (below_alloc _ _))).below bb; have p1_1 := ((Rq.new _ (w70.heap.size + 1) (by first | rfl | simp))).below bb) | (have p1_0 := ((Rq.new _ (w70.heap.size) (by first | rfl | simp))).below bb) | skip); (try obtain ⟨p0_0_a, p0_0_b, p0_0_c⟩ := p0_0.apart); (try obtain ⟨p0_1_a, p0_1_b, p0_1_c⟩ := p0_1.apart); (try obtain ⟨p1_0_a, p1_0_b, p1_0_c⟩ := p1_0.apart); (try obtain ⟨p1_1_a, p1_1_b, p1_1_c⟩ := p1_1.apart); clear bb z11)
        | (go_at_call 19; (first | (with_reducible refine (qround_q ha ?_ ?_).mono ?_) | (with_reducible refine (qround_q (ha.below (below_alloc _ _)) ?_ ?_).mono ?_) | (with_reducible refine (qround_q ((ha.below (below_alloc _ _)).below (below_alloc _ _)) ?_ ?_).mono ?_)); omega; omega; rintro e w72 ⟨v12, rfl, z12, bb⟩; (first | have zl := zl.below bb | have zl := (zl.below (below_alloc _ _)).below bb | have zl := ((zl.below (below_alloc _ _)).below (below_alloc _ _)).below bb); (first | have hs := hs.up bb | have hs := (hs.alloc _).up bb | have hs := ((hs.alloc _).alloc _).up bb); have z_2 := hs.2; (try (first | have p0_0 := p0_0.below bb | have p0_0 := (p0_0.below (below_alloc _ _)).below bb | have p0_0 := ((p0_0.below (below_alloc _ _)).below (below_alloc _ _)).below bb)); (try (first | have p0_1 := p0_1.below bb | have p0_1 := (p0_1.below (below_alloc _ _)).below bb | have p0_1 := ((p0_1.below (below_alloc _ _)).below (below_alloc _ _)).below bb)); (try (first | have p1_0 := p1_0.below bb | have p1_0 := (p1_0.below (below_alloc _ _)).below bb | have p1_0 := ((p1_0.below (below_alloc _ _)).below (below_alloc _ _)).below bb)); (try (first | have p1_1 := p1_1.below bb | have p1_1 := (p1_1.below (below_alloc _ _)).below bb | have p1_1 := ((p1_1.below (below_alloc _ _)).below (below_alloc _ _)).below bb)); (first | (have p2_0 := (((Rq.new _ (w71.heap.size) (by first | rfl | simp)).below (below_alloc _ _))).below bb; have p2_1 := ((Rq.new _ (w71.heap.size + 1) (by first | rfl | simp))).below bb) | (have p2_0 := ((Rq.new _ (w71.heap.size) (by first | rfl | simp))).below bb) | skip); (try obtain ⟨p0_0_a, p0_0_b, p0_0_c⟩ := p0_0.apart); (try obtain ⟨p0_1_a, p0_1_b, p0_1_c⟩ := p0_1.apart); (try obtain ⟨p1_0_a, p1_0_b, p1_0_c⟩ := p1_0.apart); (try obtain ⟨p1_1_a, p1_1_b, p1_1_c⟩ := p1_1.apart); (try obtain ⟨p2_0_a, p2_0_b, p2_0_c⟩ := p2_0.apart); (try obtain ⟨p2_1_a, p2_1_b, p2_1_c⟩ := p2_1.apart); clear bb)
        | (go_at_call 25; (first | (with_reducible refine (of_q z12).mono ?_) | (with_reducible refine (of_q (z12.below (below_alloc _ _))).mono ?_) | (with_reducible refine (of_q ((z12.below (below_alloc _ _)).below (below_alloc _ _))).mono ?_)); rintro e w73 ⟨be, Ae, ne, ce, Be, me, de, rfl, ze, bb⟩; (first | have zl := zl.below bb | have zl := (zl.below (below_alloc _ _)).below bb | have zl := ((zl.below (below_alloc _ _)).below (below_alloc _ _)).below bb); (first | have hs := hs.up bb | have hs := (hs.alloc _).up bb | have hs := ((hs.alloc _).alloc _).up bb); have z_3 := hs.2; (try (first | have p0_0 := p0_0.below bb | have p0_0 := (p0_0.below (below_alloc _ _)).below bb | have p0_0 := ((p0_0.below (below_alloc _ _)).below (below_alloc _ _)).below bb)); (try (first | have p0_1 := p0_1.below bb | have p0_1 := (p0_1.below (below_alloc _ _)).below bb | have p0_1 := ((p0_1.below (below_alloc _ _)).below (below_alloc _ _)).below bb)); (try (first | have p1_0 := p1_0.below bb | have p1_0 := (p1_0.below (below_alloc _ _)).below bb | have p1_0 := ((p1_0.below (below_alloc _ _)).below (below_alloc _ _)).below bb)); (try (first | have p1_1 := p1_1.below bb | have p1_1 := (p1_1.below (below_alloc _ _)).below bb | have p1_1 := ((p1_1.below (below_alloc _ _)).below (below_alloc _ _)).below bb)); (try (first | have p2_0 := p2_0.below bb | have p2_0 := (p2_0.below (below_alloc _ _)).below bb | have p2_0 := ((p2_0.below (below_alloc _ _)).below (below_alloc _ _)).below bb)); (try (first | have p2_1 := p2_1.below bb | have p2_1 := (p2_1.below (below_alloc _ _)).below bb | have p2_1 := ((p2_1.below (below_alloc _ _)).below (below_alloc _ _)).below bb)); (first | (have p3_0 := (((Rq.new _ (w72.heap.size) (by first | rfl | simp)).below (below_alloc _ _))).below bb; have p3_1 := ((Rq.new _ (w72.heap.size + 1) (by first | rfl | simp))).below bb) | (have p3_0 := ((Rq.new _ (w72.heap.size) (by first | rfl | simp))).below bb) | skip); (try obtain ⟨p0_0_a, p0_0_b, p0_0_c⟩ := p0_0.apart); (try obtain ⟨p0_1_a, p0_1_b, p0_1_c⟩ := p0_1.apart); (try obtain ⟨p1_0_a, p1_0_b, p1_0_c⟩ := p1_0.apart); (try obtain ⟨p1_1_a, p1_1_b, p1_1_c⟩ := p1_1.apart); (try obtain ⟨p2_0_a, p2_0_b, p2_0_c⟩ := p2_0.apart); (try obtain ⟨p2_1_a, p2_1_b, p2_1_c⟩ := p2_1.apart); (try obtain ⟨p3_0_a, p3_0_b, p3_0_c⟩ := p3_0.apart); (try obtain ⟨p3_1_a, p3_1_b, p3_1_c⟩ := p3_1.apart); (try (have p0_0_0 := p0_0.1; have p0_0_1 := p0_0.2.1; have p0_0_2 := p0_0.2.2.1; have p0_0_3 := p0_0.2.2.2.1; have p0_0_4 := p0_0.2.2.2.2.1; have p0_0_5 := p0_0.2.2.2.2.2)); (try (have p0_1_0 := p0_1.1; have p0_1_1 := p0_1.2.1; have p0_1_2 := p0_1.2.2.1; have p0_1_3 := p0_1.2.2.2.1; have p0_1_4 := p0_1.2.2.2.2.1; have p0_1_5 := p0_1.2.2.2.2.2)); (try (have p1_0_0 := p1_0.1; have p1_0_1 := p1_0.2.1; have p1_0_2 := p1_0.2.2.1; have p1_0_3 := p1_0.2.2.2.1; have p1_0_4 := p1_0.2.2.2.2.1; have p1_0_5 := p1_0.2.2.2.2.2)); (try (have p1_1_0 := p1_1.1; have p1_1_1 := p1_1.2.1; have p1_1_2 := p1_1.2.2.1; have p1_1_3 := p1_1.2.2.2.1; have p1_1_4 := p1_1.2.2.2.2.1; have p1_1_5 := p1_1.2.2.2.2.2)); (try (have p2_0_0 := p2_0.1; have p2_0_1 := p2_0.2.1; have p2_0_2 := p2_0.2.2.1; have p2_0_3 := p2_0.2.2.2.1; have p2_0_4 := p2_0.2.2.2.2.1; have p2_0_5 := p2_0.2.2.2.2.2)); (try (have p2_1_0 := p2_1.1; have p2_1_1 := p2_1.2.1; have p2_1_2 := p2_1.2.2.1; have p2_1_3 := p2_1.2.2.2.1; have p2_1_4 := p2_1.2.2.2.2.1; have p2_1_5 := p2_1.2.2.2.2.2)); (try (have p3_0_0 := p3_0.1; have p3_0_1 := p3_0.2.1; have p3_0_2 := p3_0.2.2.1; have p3_0_3 := p3_0.2.2.2.1; have p3_0_4 := p3_0.2.2.2.2.1; have p3_0_5 := p3_0.2.2.2.2.2)); (try (have p3_1_0 := p3_1.1; have p3_1_1 := p3_1.2.1; have p3_1_2 := p3_1.2.2.1; have p3_1_3 := p3_1.2.2.2.1; have p3_1_4 := p3_1.2.2.2.2.1; have p3_1_5 := p3_1.2.2.2.2.2)); clear bb z12))
    all_goals
      go_wp2_with fail
      go_meet
      refine ⟨_, bl, Al, nl, cl, Bl, ml, dl, _, be, Ae, ne, ce, Be, me, de, rfl, rfl, ?_, ?_, ?_, ?_, ?_, ?_, ?_⟩
      all_goals
        repeat' (first | with_reducible assumption | (with_reducible exact Bq.new _ _ (by simp) _ _ _) | (with_reducible exact Bx.new _ _ (by simp) _ _) | (with_reducible refine Bq.later ?_ _) | (with_reducible refine Bx.later ?_ _) | (with_reducible refine Rq.written ?_ _ _ _) | (with_reducible refine Rx.written ?_ _ _) | (with_reducible refine Bq.ret3 ?_ (by omega) _ _ _) | (with_reducible refine Bq.ret ?_ (by omega) _ _) | (with_reducible refine Bx.ret3 ?_ (by omega) _ _ _) | (with_reducible refine Bx.ret ?_ (by omega) _ _) | (with_reducible refine Qz.later ?_ _) | (with_reducible refine Qz.ret3 ?_ ?_ _ _ _) | (with_reducible refine Qz.ret ?_ ?_ _ _) | (with_reducible refine Qv.later ?_ _) | (with_reducible refine Qv.ret3 ?_ ?_ _ _ _) | (with_reducible refine Qv.ret ?_ ?_ _ _) | (with_reducible refine Iz.later ?_ _) | (with_reducible refine Iz.ret3 ?_ ?_ _ _ _) | (with_reducible refine Iz.ret ?_ ?_ _ _) | (with_reducible refine Rq.ret3 ?_ (by omega) _ _ _) | (with_reducible refine Rx.ret ?_ (by omega) _ _) | (with_reducible refine Bw.alloc ?_ _) | (with_reducible refine Bw.ret3 ?_ (by omega) _ _ _) | (with_reducible refine Bw.ret ?_ (by omega) _ _) | omega)
  case rest => as_aux_lemma =>
    obtain ⟨gl, bl, Al, nl, cl, Bl, ml, dl, ge, be, Ae, ne, ce, Be, me, de, rfl, rfl, kl, ke, zl, ze, ll, le, hw⟩ := hcut
    have ka := hw.bq ka (by omega)
    have ki := hw.bq ki (by omega)
    have kf := hw.bq kf (by omega)
    have B0 := B0.trans (hw.1.mono B0.size)
    have ha := ha.below hw.1
    have zi := zi.below hw.1
    have zf := zf.below hw.1
    clear HS
    clear hw
    go_wp2_with fail
    have ha := ha.drew
    have zi := zi.drew
    have zf := zf.drew
    have ka := ka.drew
    have ki := ki.drew
    have kf := kf.drew
    have kl := kl.drew
    have ke := ke.drew
    have zl := zl.drew
    have ze := ze.drew
    have B0 := b_drew B0
    go_region_held3 (fun w' => w'.cell? ⟨w.heap.size, 0, none⟩ = some (.bool ba) ∧ w'.cell? ⟨w.heap.size, 1, none⟩ = some (.slice Aa na ca) ∧ w'.cell? ⟨w.heap.size, 2, none⟩ = some (.slice Ba ma da) ∧ w'.cell? ⟨w2.heap.size, 0, none⟩ = some (.bool bi) ∧ w'.cell? ⟨w2.heap.size, 1, none⟩ = some (.slice Ai ni ci) ∧ w'.cell? ⟨w2.heap.size, 2, none⟩ = some (.slice Bi mi di) ∧ w'.cell? ⟨w3.heap.size, 0, none⟩ = some (.bool bf) ∧ w'.cell? ⟨w3.heap.size, 1, none⟩ = some (.slice Af nf cf) ∧ w'.cell? ⟨w3.heap.size, 2, none⟩ = some (.slice Bf mf df) ∧ w'.cell? ⟨gl, 0, none⟩ = some (.bool bl) ∧ w'.cell? ⟨gl, 1, none⟩ = some (.slice Al nl cl) ∧ w'.cell? ⟨gl, 2, none⟩ = some (.slice Bl ml dl) ∧ w'.cell? ⟨ge, 0, none⟩ = some (.bool be) ∧ w'.cell? ⟨ge, 1, none⟩ = some (.slice Ae ne ce) ∧ w'.cell? ⟨ge, 2, none⟩ = some (.slice Be me de)) (first | with_reducible exact ⟨ka.c0, ka.c1, ka.c2, ki.c0, ki.c1, ki.c2, kf.c0, kf.c1, kf.c2, kl.c0, kl.c1, kl.c2, ke.c0, ke.c1, ke.c2⟩)
      (first
        | (go_at_call 13; (with_reducible refine (qcmp_q zl.qv ha ?_ ?_ ?_ ?_ _ E1.out).mono ?_); omega; omega; omega; omega; rintro e w21 ⟨rfl, bb⟩; have ha := ha.below bb; have zi := zi.below bb; have zf := zf.below bb; have ka := ka.below bb; have ki := ki.below bb; have kf := kf.below bb; have kl := kl.below bb; have ke := ke.below bb; have zl := zl.below bb; have ze := ze.below bb; have B0 := B0.trans (bb.mono B0.size); clear bb)
        | (go_at_call 16; (with_reducible refine (qadd_q zl.qv zi.qv ?_ ?_ ?_ ?_).mono ?_); omega; omega; omega; omega; rintro e w22 ⟨b21, A21, n21, c21, B21, m21, d21, rfl, z21, bb⟩; have ha := ha.below bb; have zi := zi.below bb; have zf := zf.below bb; have ka := ka.below bb; have ki := ki.below bb; have kf := kf.below bb; have kl := kl.below bb; have ke := ke.below bb; have zl := zl.below bb; have ze := ze.below bb; have B0 := B0.trans (bb.mono B0.size); clear bb)
        | (go_at_call 13; (with_reducible refine (qcmp_q ha z21.qv ?_ ?_ ?_ ?_ _ E2.out).mono ?_); omega; omega; omega; omega; rintro e w23 ⟨rfl, bb⟩; have ha := ha.below bb; have zi := zi.below bb; have zf := zf.below bb; have ka := ka.below bb; have ki := ki.below bb; have kf := kf.below bb; have kl := kl.below bb; have ke := ke.below bb; have zl := zl.below bb; have ze := ze.below bb; have z21 := z21.below bb; have B0 := B0.trans (bb.mono B0.size); clear bb))
    have ka_0 := ka.c0
    have ka_1 := ka.c1
    have ka_2 := ka.c2
    have ki_0 := ki.c0
    have ki_1 := ki.c1
    have ki_2 := ki.c2
    have kf_0 := kf.c0
    have kf_1 := kf.c1
    have kf_2 := kf.c2
    have kl_0 := kl.c0
    have kl_1 := kl.c1
    have kl_2 := kl.c2
    have ke_0 := ke.c0
    have ke_1 := ke.c1
    have ke_2 := ke.c2
    go_wp2_with fail
    refine (qsub_q ze.qv ha (by omega) (by omega) (by omega) (by omega)).mono ?_
    clear ka_0 ka_1 ka_2 ki_0 ki_1 ki_2 kf_0 kf_1 kf_2 kl_0 kl_1 kl_2 ke_0 ke_1 ke_2
    rintro e w31 ⟨bg, Ag, ng, cg, Bg, mg, dg, rfl, zg, bb⟩
    have ha := ha.below bb
    have zi := zi.below bb
    have zf := zf.below bb
    have ka := ka.below bb
    have ki := ki.below bb
    have kf := kf.below bb
    have kl := kl.below bb
    have ke := ke.below bb
    have zl := zl.below bb
    have ze := ze.below bb
    have B0 := B0.trans (bb.mono B0.size)
    clear bb
    rw [HY.out] at zg
    have ha := ha.below (below_alloc w31 (.cells #[.bool bg, .slice Ag ng cg, .slice Bg mg dg] 27))
    have zi := zi.below (below_alloc w31 (.cells #[.bool bg, .slice Ag ng cg, .slice Bg mg dg] 27))
    have zf := zf.below (below_alloc w31 (.cells #[.bool bg, .slice Ag ng cg, .slice Bg mg dg] 27))
    have ka := ka.below (below_alloc w31 (.cells #[.bool bg, .slice Ag ng cg, .slice Bg mg dg] 27))
    have ki := ki.below (below_alloc w31 (.cells #[.bool bg, .slice Ag ng cg, .slice Bg mg dg] 27))
    have kf := kf.below (below_alloc w31 (.cells #[.bool bg, .slice Ag ng cg, .slice Bg mg dg] 27))
    have kl := kl.below (below_alloc w31 (.cells #[.bool bg, .slice Ag ng cg, .slice Bg mg dg] 27))
    have ke := ke.below (below_alloc w31 (.cells #[.bool bg, .slice Ag ng cg, .slice Bg mg dg] 27))
    have zl := zl.below (below_alloc w31 (.cells #[.bool bg, .slice Ag ng cg, .slice Bg mg dg] 27))
    have ze := ze.below (below_alloc w31 (.cells #[.bool bg, .slice Ag ng cg, .slice Bg mg dg] 27))
    have zg := zg.below (below_alloc w31 (.cells #[.bool bg, .slice Ag ng cg, .slice Bg mg dg] 27))
    have kg := Bq.new w31 (w31.heap.size) (by simp) (.bool bg) (.slice Ag ng cg) (.slice Bg mg dg)
    have B0 := B0.trans ((below_alloc w31 (.cells #[.bool bg, .slice Ag ng cg, .slice Bg mg dg] 27)).mono B0.size)
    go_wp2_with fail
    have ha := ha.drew
    have zi := zi.drew
    have zf := zf.drew
    have ka := ka.drew
    have ki := ki.drew
    have kf := kf.drew
    have kl := kl.drew
    have ke := ke.drew
    have zl := zl.drew
    have ze := ze.drew
    have zg := zg.drew
    have kg := kg.drew
    have B0 := b_drew B0
    go_region_held3 (fun w' => w'.cell? ⟨w.heap.size, 0, none⟩ = some (.bool ba) ∧ w'.cell? ⟨w.heap.size, 1, none⟩ = some (.slice Aa na ca) ∧ w'.cell? ⟨w.heap.size, 2, none⟩ = some (.slice Ba ma da) ∧ w'.cell? ⟨w2.heap.size, 0, none⟩ = some (.bool bi) ∧ w'.cell? ⟨w2.heap.size, 1, none⟩ = some (.slice Ai ni ci) ∧ w'.cell? ⟨w2.heap.size, 2, none⟩ = some (.slice Bi mi di) ∧ w'.cell? ⟨w3.heap.size, 0, none⟩ = some (.bool bf) ∧ w'.cell? ⟨w3.heap.size, 1, none⟩ = some (.slice Af nf cf) ∧ w'.cell? ⟨w3.heap.size, 2, none⟩ = some (.slice Bf mf df) ∧ w'.cell? ⟨gl, 0, none⟩ = some (.bool bl) ∧ w'.cell? ⟨gl, 1, none⟩ = some (.slice Al nl cl) ∧ w'.cell? ⟨gl, 2, none⟩ = some (.slice Bl ml dl) ∧ w'.cell? ⟨ge, 0, none⟩ = some (.bool be) ∧ w'.cell? ⟨ge, 1, none⟩ = some (.slice Ae ne ce) ∧ w'.cell? ⟨ge, 2, none⟩ = some (.slice Be me de) ∧ w'.cell? ⟨w31.heap.size, 0, none⟩ = some (.bool bg) ∧ w'.cell? ⟨w31.heap.size, 1, none⟩ = some (.slice Ag ng cg) ∧ w'.cell? ⟨w31.heap.size, 2, none⟩ = some (.slice Bg mg dg)) (first | with_reducible exact ⟨ka.c0, ka.c1, ka.c2, ki.c0, ki.c1, ki.c2, kf.c0, kf.c1, kf.c2, kl.c0, kl.c1, kl.c2, ke.c0, ke.c1, ke.c2, kg.c0, kg.c1, kg.c2⟩)
      (first
        | (go_at_call 13; (with_reducible refine (qcmp_q zg.qv zf.qv ?_ ?_ ?_ ?_ _ E3.out).mono ?_); omega; omega; omega; omega; rintro e w41 ⟨rfl, bb⟩; have ha := ha.below bb; have zi := zi.below bb; have zf := zf.below bb; have ka := ka.below bb; have ki := ki.below bb; have kf := kf.below bb; have kl := kl.below bb; have ke := ke.below bb; have zl := zl.below bb; have ze := ze.below bb; have zg := zg.below bb; have kg := kg.below bb; have B0 := B0.trans (bb.mono B0.size); clear bb)
        | (go_at_call 23; (with_reducible refine (qneg_q zf.qv ?_ ?_).mono ?_); omega; omega; rintro e w42 ⟨b41, A41, n41, c41, B41, m41, d41, rfl, z41, bb⟩; have ha := ha.below bb; have zi := zi.below bb; have zf := zf.below bb; have ka := ka.below bb; have ki := ki.below bb; have kf := kf.below bb; have kl := kl.below bb; have ke := ke.below bb; have zl := zl.below bb; have ze := ze.below bb; have zg := zg.below bb; have kg := kg.below bb; have B0 := B0.trans (bb.mono B0.size); clear bb)
        | (go_at_call 13; (with_reducible refine (qcmp_q z41.qv zg.qv ?_ ?_ ?_ ?_ _ E4.out).mono ?_); omega; omega; omega; omega; rintro e w43 ⟨rfl, bb⟩; have ha := ha.below bb; have zi := zi.below bb; have zf := zf.below bb; have ka := ka.below bb; have ki := ki.below bb; have kf := kf.below bb; have kl := kl.below bb; have ke := ke.below bb; have zl := zl.below bb; have ze := ze.below bb; have zg := zg.below bb; have kg := kg.below bb; have z41 := z41.below bb; have B0 := B0.trans (bb.mono B0.size); clear bb)
        | (go_at_call 23; (with_reducible refine (qneg_q ha ?_ ?_).mono ?_); omega; omega; rintro e w44 ⟨b42, A42, n42, c42, B42, m42, d42, rfl, z42, bb⟩; have ha := ha.below bb; have zi := zi.below bb; have zf := zf.below bb; have ka := ka.below bb; have ki := ki.below bb; have kf := kf.below bb; have kl := kl.below bb; have ke := ke.below bb; have zl := zl.below bb; have ze := ze.below bb; have zg := zg.below bb; have kg := kg.below bb; have B0 := B0.trans (bb.mono B0.size); clear bb)
        | (go_at_call 19; (with_reducible refine (qround_q z42.qv ?_ ?_).mono ?_); omega; omega; rintro e w45 ⟨v43, rfl, z43, bb⟩; have ha := ha.below bb; have zi := zi.below bb; have zf := zf.below bb; have ka := ka.below bb; have ki := ki.below bb; have kf := kf.below bb; have kl := kl.below bb; have ke := ke.below bb; have zl := zl.below bb; have ze := ze.below bb; have zg := zg.below bb; have kg := kg.below bb; have z42 := z42.below bb; have B0 := B0.trans (bb.mono B0.size); clear bb)
        | (go_at_call 25; (with_reducible refine (of_q z43).mono ?_); rintro e w46 ⟨b44, A44, n44, c44, B44, m44, d44, rfl, z44, bb⟩; have ha := ha.below bb; have zi := zi.below bb; have zf := zf.below bb; have ka := ka.below bb; have ki := ki.below bb; have kf := kf.below bb; have kl := kl.below bb; have ke := ke.below bb; have zl := zl.below bb; have ze := ze.below bb; have zg := zg.below bb; have kg := kg.below bb; have z43 := z43.below bb; have B0 := B0.trans (bb.mono B0.size); clear bb)
        | (go_at_call 23; (with_reducible refine (qneg_q ze.qv ?_ ?_).mono ?_); omega; omega; rintro e w47 ⟨b45, A45, n45, c45, B45, m45, d45, rfl, z45, bb⟩; have ha := ha.below bb; have zi := zi.below bb; have zf := zf.below bb; have ka := ka.below bb; have ki := ki.below bb; have kf := kf.below bb; have kl := kl.below bb; have ke := ke.below bb; have zl := zl.below bb; have ze := ze.below bb; have zg := zg.below bb; have kg := kg.below bb; have z44 := z44.below bb; have B0 := B0.trans (bb.mono B0.size); clear bb)
        | (go_at_call 12; (with_reducible refine (rsame_q z44 z45 (HROUND.out)).mono ?_); rintro e w48 ⟨rfl, bb⟩; have ha := ha.below bb; have zi := zi.below bb; have zf := zf.below bb; have ka := ka.below bb; have ki := ki.below bb; have kf := kf.below bb; have kl := kl.below bb; have ke := ke.below bb; have zl := zl.below bb; have ze := ze.below bb; have zg := zg.below bb; have kg := kg.below bb; have z44 := z44.below bb; have z45 := z45.below bb; have B0 := B0.trans (bb.mono B0.size); clear bb))
    have ka_0 := ka.c0
    have ka_1 := ka.c1
    have ka_2 := ka.c2
    have ki_0 := ki.c0
    have ki_1 := ki.c1
    have ki_2 := ki.c2
    have kf_0 := kf.c0
    have kf_1 := kf.c1
    have kf_2 := kf.c2
    have kl_0 := kl.c0
    have kl_1 := kl.c1
    have kl_2 := kl.c2
    have kg_0 := kg.c0
    have kg_1 := kg.c1
    have kg_2 := kg.c2
    go_wp2_with fail
    refine (qsub_q zi.qv zi.qv (by omega) (by omega) (by omega) (by omega)).mono ?_
    clear ka_0 ka_1 ka_2 ki_0 ki_1 ki_2 kf_0 kf_1 kf_2 kl_0 kl_1 kl_2 kg_0 kg_1 kg_2
    rintro e w61 ⟨bh, Ah, nh, ch, Bh, mh, dh, rfl, zh, bb⟩
    have ha := ha.below bb
    have zi := zi.below bb
    have zf := zf.below bb
    have ka := ka.below bb
    have ki := ki.below bb
    have kf := kf.below bb
    have kl := kl.below bb
    have zl := zl.below bb
    have zg := zg.below bb
    have kg := kg.below bb
    have B0 := B0.trans (bb.mono B0.size)
    clear bb
    rw [H0.out] at zh
    have ha := ha.below (below_alloc w61 (.cells #[.bool bh, .slice Ah nh ch, .slice Bh mh dh] 27))
    have zi := zi.below (below_alloc w61 (.cells #[.bool bh, .slice Ah nh ch, .slice Bh mh dh] 27))
    have zf := zf.below (below_alloc w61 (.cells #[.bool bh, .slice Ah nh ch, .slice Bh mh dh] 27))
    have ka := ka.below (below_alloc w61 (.cells #[.bool bh, .slice Ah nh ch, .slice Bh mh dh] 27))
    have ki := ki.below (below_alloc w61 (.cells #[.bool bh, .slice Ah nh ch, .slice Bh mh dh] 27))
    have kf := kf.below (below_alloc w61 (.cells #[.bool bh, .slice Ah nh ch, .slice Bh mh dh] 27))
    have kl := kl.below (below_alloc w61 (.cells #[.bool bh, .slice Ah nh ch, .slice Bh mh dh] 27))
    have zl := zl.below (below_alloc w61 (.cells #[.bool bh, .slice Ah nh ch, .slice Bh mh dh] 27))
    have zg := zg.below (below_alloc w61 (.cells #[.bool bh, .slice Ah nh ch, .slice Bh mh dh] 27))
    have kg := kg.below (below_alloc w61 (.cells #[.bool bh, .slice Ah nh ch, .slice Bh mh dh] 27))
    have zh := zh.below (below_alloc w61 (.cells #[.bool bh, .slice Ah nh ch, .slice Bh mh dh] 27))
    have kh := Bq.new w61 (w61.heap.size) (by simp) (.bool bh) (.slice Ah nh ch) (.slice Bh mh dh)
    have B0 := B0.trans ((below_alloc w61 (.cells #[.bool bh, .slice Ah nh ch, .slice Bh mh dh] 27)).mono B0.size)
    go_upto_region 12 with fail
    obtain ⟨W6, hW⟩ : ∃ W0, (w61.alloc (.cells #[.bool bh, .slice Ah nh ch, .slice Bh mh dh] 27)) = W0 := ⟨_, rfl⟩
    rw [hW] at ha zi zf ka ki kf kl zl zg kg zh kh B0 ⊢
    clear hW
    have hs : Bw W6.heap.size W6 W6 := ⟨Below.refl _ _, Nat.le_refl _⟩
    have lka := ka.lt
    have lki := ki.lt
    have lkf := kf.lt
    have lkl := kl.lt
    have lkg := kg.lt
    have lkh := kh.lt
    go_cut [94] (fun s94 wx => s94 = .bool false ∧ Bw W6.heap.size W6 wx)
    case first => as_aux_lemma =>
      rcases HPATH.out with hh | hh | hh
      · have g0 : (o3 == 0) = false := by simp; omega
        have g1 : (o6 == 0) = false := by simp; omega
        clear hh HPATH E1 E2 E4 HROUND HFLOOR H0 HY HN HN1 HT d1 d2 d3 d4 zl kl zi ki
        go_wp2_with fail
        have ha := ha.drew
        have zf := zf.drew
        have ka := ka.drew
        have kf := kf.drew
        have zg := zg.drew
        have kg := kg.drew
        have zh := zh.drew
        have kh := kh.drew
        have hs := hs.drew
        have B0 := b_drew B0
        refine wp_region_noPanic ?_
        refine wp_region_held_drew (S := fun w' => w'.cell? ⟨w.heap.size, 0, none⟩ = some (.bool ba) ∧ w'.cell? ⟨w.heap.size, 1, none⟩ = some (.slice Aa na ca) ∧ w'.cell? ⟨w.heap.size, 2, none⟩ = some (.slice Ba ma da) ∧ w'.cell? ⟨w3.heap.size, 0, none⟩ = some (.bool bf) ∧ w'.cell? ⟨w3.heap.size, 1, none⟩ = some (.slice Af nf cf) ∧ w'.cell? ⟨w3.heap.size, 2, none⟩ = some (.slice Bf mf df) ∧ w'.cell? ⟨w31.heap.size, 0, none⟩ = some (.bool bg) ∧ w'.cell? ⟨w31.heap.size, 1, none⟩ = some (.slice Ag ng cg) ∧ w'.cell? ⟨w31.heap.size, 2, none⟩ = some (.slice Bg mg dg) ∧ w'.cell? ⟨w61.heap.size, 0, none⟩ = some (.bool bh) ∧ w'.cell? ⟨w61.heap.size, 1, none⟩ = some (.slice Ah nh ch) ∧ w'.cell? ⟨w61.heap.size, 2, none⟩ = some (.slice Bh mh dh)) (by kernel_rfl) ?_ (fun hHeld => ?_)
        · (try dsimp only); (first | with_reducible exact ⟨ka.c0, ka.c1, ka.c2, kf.c0, kf.c1, kf.c2, kg.c0, kg.c1, kg.c2, kh.c0, kh.c1, kh.c2⟩)
        refine wpAnyH_take (i := 0) (v := ?_) rfl (by kernel_rfl) (by kernel_rfl) (by kernel_rfl) (fun _ _ _ h => h) (Or.inl ⟨by rfl, ?_⟩) (by assumption) ?_
        rotate_left
        focus (intro w hSw; (try dsimp only at hSw); go_simp; (try with_reducible rfl); done)
        (try simp only [List.getElem_toArray, List.getElem_cons_zero, Act.put, List.setIfInBounds_toArray, List.set_cons_zero, List.set_cons_succ])
        refine wpAnyH_take (i := 1) (v := ?_) rfl (by kernel_rfl) (by kernel_rfl) (by kernel_rfl) (fun _ _ _ h => h) (Or.inl ⟨by rfl, ?_⟩) (by assumption) ?_
        rotate_left
        focus (intro w hSw; (try dsimp only at hSw); go_simp; (try with_reducible rfl); done)
        (try simp only [List.getElem_toArray, List.getElem_cons_succ, List.getElem_cons_zero, Act.put, List.setIfInBounds_toArray, List.set_cons_zero, List.set_cons_succ])
        refine wpAnyH_ready (rs := [2]) (by kernel_rfl) (by simp) ?_
        refine AllReadyH.cons (o := _) rfl (fun K hK => ?_) AllReadyH.nil
        (try simp only [List.getElem_toArray, List.getElem_cons_succ, List.getElem_cons_zero])
        go_simp
        (go_at_call 13; (with_reducible refine (qcmp_q zg.qv zf.qv ?_ ?_ ?_ ?_ _ E3.out).mono ?_); omega; omega; omega; omega; rintro e w71 ⟨rfl, bb⟩; have ha := ha.below bb; have zf := zf.below bb; have ka := ka.below bb; have kf := kf.below bb; have zg := zg.below bb; have kg := kg.below bb; have zh := zh.below bb; have kh := kh.below bb; have hs := hs.below bb; have B0 := B0.trans (bb.mono B0.size); clear bb)
        (try go_wp2_with fail)
        refine hK.out _ _ ?_ (fun hHeld => ?_)
        · (try dsimp only); (first | with_reducible exact ⟨ka.c0, ka.c1, ka.c2, kf.c0, kf.c1, kf.c2, kg.c0, kg.c1, kg.c2, kh.c0, kh.c1, kh.c2⟩)
        clear hK K
        (try simp only [Act.put, List.setIfInBounds_toArray, List.set_cons_zero, List.set_cons_succ])
        refine wpAnyH_take (i := 3) (v := ?_) rfl (by kernel_rfl) (by kernel_rfl) (by kernel_rfl) (fun _ _ _ h => h) (Or.inl ⟨by rfl, ?_⟩) (by assumption) ?_
        rotate_left
        focus (intro w hSw; (try dsimp only at hSw); go_simp; (try with_reducible rfl); done)
        (try simp only [List.getElem_toArray, List.getElem_cons_succ, List.getElem_cons_zero, Act.put, List.setIfInBounds_toArray, List.set_cons_zero, List.set_cons_succ])
        refine wpAnyH_take (i := 4) (v := ?_) rfl (by kernel_rfl) (by kernel_rfl) (by kernel_rfl) (fun _ _ _ h => h) (Or.inl ⟨by rfl, ?_⟩) (by assumption) ?_
        rotate_left
        focus (intro w hSw; (try dsimp only at hSw); go_simp; (try with_reducible rfl); done)
        (try simp only [List.getElem_toArray, List.getElem_cons_succ, List.getElem_cons_zero, Act.put, List.setIfInBounds_toArray, List.set_cons_zero, List.set_cons_succ])
        (first
          | (refine wpAnyH_take (i := 5) (v := ?_) rfl (by kernel_rfl) (by kernel_rfl) (by kernel_rfl) (fun _ _ _ h => h) (Or.inl ⟨by rfl, ?_⟩) (by assumption) ?_; rotate_left; focus (intro w hSw; (try dsimp only at hSw); go_simp; (try with_reducible rfl); done))
          | (refine wpAnyH_take (i := 5) (v := undef) rfl (by kernel_rfl) (by kernel_rfl) (by kernel_rfl) (fun _ _ _ h => h) (Or.inr ⟨by rfl, rfl⟩) (by assumption) ?_))
        (try simp only [List.getElem_toArray, List.getElem_cons_succ, List.getElem_cons_zero, Act.put, List.setIfInBounds_toArray, List.set_cons_zero, List.set_cons_succ])
        (first
          | (refine wpAnyH_take (i := 6) (v := ?_) rfl (by kernel_rfl) (by kernel_rfl) (by kernel_rfl) (fun _ _ _ h => h) (Or.inl ⟨by rfl, ?_⟩) (by assumption) ?_; rotate_left; focus (intro w hSw; (try dsimp only at hSw); go_simp; (try with_reducible rfl); done))
          | (refine wpAnyH_take (i := 6) (v := undef) rfl (by kernel_rfl) (by kernel_rfl) (by kernel_rfl) (fun _ _ _ h => h) (Or.inr ⟨by rfl, rfl⟩) (by assumption) ?_))
        (try simp only [List.getElem_toArray, List.getElem_cons_succ, List.getElem_cons_zero, Act.put, List.setIfInBounds_toArray, List.set_cons_zero, List.set_cons_succ])
        (first
          | (refine wpAnyH_take (i := 7) (v := ?_) rfl (by kernel_rfl) (by kernel_rfl) (by kernel_rfl) (fun _ _ _ h => h) (Or.inl ⟨by rfl, ?_⟩) (by assumption) ?_; rotate_left; focus (intro w hSw; (try dsimp only at hSw); go_simp; (try with_reducible rfl); done))
          | (refine wpAnyH_take (i := 7) (v := undef) rfl (by kernel_rfl) (by kernel_rfl) (by kernel_rfl) (fun _ _ _ h => h) (Or.inr ⟨by rfl, rfl⟩) (by assumption) ?_))
        (try simp only [List.getElem_toArray, List.getElem_cons_succ, List.getElem_cons_zero, Act.put, List.setIfInBounds_toArray, List.set_cons_zero, List.set_cons_succ])
        (first
          | (refine wpAnyH_take (i := 8) (v := ?_) rfl (by kernel_rfl) (by kernel_rfl) (by kernel_rfl) (fun _ _ _ h => h) (Or.inl ⟨by rfl, ?_⟩) (by assumption) ?_; rotate_left; focus (intro w hSw; (try dsimp only at hSw); go_simp; (try with_reducible rfl); done))
          | (refine wpAnyH_take (i := 8) (v := undef) rfl (by kernel_rfl) (by kernel_rfl) (by kernel_rfl) (fun _ _ _ h => h) (Or.inr ⟨by rfl, rfl⟩) (by assumption) ?_))
        (try simp only [List.getElem_toArray, List.getElem_cons_succ, List.getElem_cons_zero, Act.put, List.setIfInBounds_toArray, List.set_cons_zero, List.set_cons_succ])
        refine wpAnyH_take (i := 9) (v := ?_) rfl (by kernel_rfl) (by kernel_rfl) (by kernel_rfl) (fun _ _ _ h => h) (Or.inl ⟨by rfl, ?_⟩) (by assumption) ?_
        rotate_left
        focus (intro w hSw; (try dsimp only at hSw); go_simp; (try with_reducible rfl); done)
        (try simp only [List.getElem_toArray, List.getElem_cons_succ, List.getElem_cons_zero, Act.put, List.setIfInBounds_toArray, List.set_cons_zero, List.set_cons_succ])
        refine wpAnyH_take (i := 10) (v := ?_) rfl (by kernel_rfl) (by kernel_rfl) (by kernel_rfl) (fun _ _ _ h => h) (Or.inl ⟨by rfl, ?_⟩) (by assumption) ?_
        rotate_left
        focus (intro w hSw; (try dsimp only at hSw); go_simp; (try with_reducible rfl); done)
        (try simp only [List.getElem_toArray, List.getElem_cons_succ, List.getElem_cons_zero, Act.put, List.setIfInBounds_toArray, List.set_cons_zero, List.set_cons_succ])
        refine wpAnyH_take (i := 11) (v := ?_) rfl (by kernel_rfl) (by kernel_rfl) (by kernel_rfl) (fun _ _ _ h => h) (Or.inl ⟨by rfl, ?_⟩) (by assumption) ?_
        rotate_left
        focus (intro w hSw; (try dsimp only at hSw); go_simp; (try with_reducible rfl); done)
        (try simp only [List.getElem_toArray, List.getElem_cons_succ, List.getElem_cons_zero, Act.put, List.setIfInBounds_toArray, List.set_cons_zero, List.set_cons_succ])
        refine wpAnyH_take (i := 12) (v := ?_) rfl (by kernel_rfl) (by kernel_rfl) (by kernel_rfl) (fun _ _ _ h => h) (Or.inl ⟨by rfl, ?_⟩) (by assumption) ?_
        rotate_left
        focus (intro w hSw; (try dsimp only at hSw); go_simp; (try with_reducible rfl); done)
        (try simp only [List.getElem_toArray, List.getElem_cons_succ, List.getElem_cons_zero, Act.put, List.setIfInBounds_toArray, List.set_cons_zero, List.set_cons_succ])
        refine wpAnyH_ready (rs := [13]) (by kernel_rfl) (by simp) ?_
        refine AllReadyH.cons (o := _) rfl (fun K hK => ?_) AllReadyH.nil
        (try simp only [List.getElem_toArray, List.getElem_cons_succ, List.getElem_cons_zero])
        go_simp
        (go_at_call 23; (with_reducible refine (qneg_q zf.qv ?_ ?_).mono ?_); omega; omega; rintro e w72 ⟨b71, A71, n71, c71, B71, m71, d71, rfl, z71, bb⟩; have ha := ha.below bb; have zf := zf.below bb; have ka := ka.below bb; have kf := kf.below bb; have zg := zg.below bb; have kg := kg.below bb; have zh := zh.below bb; have kh := kh.below bb; have hs := hs.below bb; have B0 := B0.trans (bb.mono B0.size); clear bb)
        (try go_wp2_with fail)
        refine hK.out _ _ ?_ (fun hHeld => ?_)
        · (try dsimp only); (first | with_reducible exact ⟨ka.c0, ka.c1, ka.c2, kf.c0, kf.c1, kf.c2, kg.c0, kg.c1, kg.c2, kh.c0, kh.c1, kh.c2⟩)
        clear hK K
        (try simp only [Act.put, List.setIfInBounds_toArray, List.set_cons_zero, List.set_cons_succ])
        refine wpAnyH_ready (rs := [14]) (by kernel_rfl) (by simp) ?_
        refine AllReadyH.cons (o := _) rfl (fun K hK => ?_) AllReadyH.nil
        (try simp only [List.getElem_toArray, List.getElem_cons_succ, List.getElem_cons_zero])
        go_simp
        (go_at_call 13; (with_reducible refine (qcmp_q zg.qv z71.qv ?_ ?_ ?_ ?_ _ E6.out).mono ?_); omega; omega; omega; omega; rintro e w73 ⟨rfl, bb⟩; have ha := ha.below bb; have zf := zf.below bb; have ka := ka.below bb; have kf := kf.below bb; have zg := zg.below bb; have kg := kg.below bb; have zh := zh.below bb; have kh := kh.below bb; have hs := hs.below bb; have z71 := z71.below bb; have B0 := B0.trans (bb.mono B0.size); clear bb)
        (try go_wp2_with fail)
        refine hK.out _ _ ?_ (fun hHeld => ?_)
        · (try dsimp only); (first | with_reducible exact ⟨ka.c0, ka.c1, ka.c2, kf.c0, kf.c1, kf.c2, kg.c0, kg.c1, kg.c2, kh.c0, kh.c1, kh.c2⟩)
        clear hK K
        (try simp only [Act.put, List.setIfInBounds_toArray, List.set_cons_zero, List.set_cons_succ])
        refine wpAnyH_take (i := 15) (v := ?_) rfl (by kernel_rfl) (by kernel_rfl) (by kernel_rfl) (fun _ _ _ h => h) (Or.inl ⟨by rfl, ?_⟩) (by assumption) ?_
        rotate_left
        focus (intro w hSw; (try dsimp only at hSw); go_simp; (try with_reducible rfl); done)
        (try simp only [List.getElem_toArray, List.getElem_cons_succ, List.getElem_cons_zero, Act.put, List.setIfInBounds_toArray, List.set_cons_zero, List.set_cons_succ])
        refine wpAnyH_take (i := 16) (v := ?_) rfl (by kernel_rfl) (by kernel_rfl) (by kernel_rfl) (fun _ _ _ h => h) (Or.inl ⟨by rfl, ?_⟩) (by assumption) ?_
        rotate_left
        focus (intro w hSw; (try dsimp only at hSw); go_simp; (try with_reducible rfl); done)
        (try simp only [List.getElem_toArray, List.getElem_cons_succ, List.getElem_cons_zero, Act.put, List.setIfInBounds_toArray, List.set_cons_zero, List.set_cons_succ])
        (first
          | (refine wpAnyH_take (i := 17) (v := ?_) rfl (by kernel_rfl) (by kernel_rfl) (by kernel_rfl) (fun _ _ _ h => h) (Or.inl ⟨by rfl, ?_⟩) (by assumption) ?_; rotate_left; focus (intro w hSw; (try dsimp only at hSw); go_simp; (try with_reducible rfl); done))
          | (refine wpAnyH_take (i := 17) (v := undef) rfl (by kernel_rfl) (by kernel_rfl) (by kernel_rfl) (fun _ _ _ h => h) (Or.inr ⟨by rfl, rfl⟩) (by assumption) ?_))
        (try simp only [List.getElem_toArray, List.getElem_cons_succ, List.getElem_cons_zero, Act.put, List.setIfInBounds_toArray, List.set_cons_zero, List.set_cons_succ])
        (first
          | (refine wpAnyH_take (i := 18) (v := ?_) rfl (by kernel_rfl) (by kernel_rfl) (by kernel_rfl) (fun _ _ _ h => h) (Or.inl ⟨by rfl, ?_⟩) (by assumption) ?_; rotate_left; focus (intro w hSw; (try dsimp only at hSw); go_simp; (try with_reducible rfl); done))
          | (refine wpAnyH_take (i := 18) (v := undef) rfl (by kernel_rfl) (by kernel_rfl) (by kernel_rfl) (fun _ _ _ h => h) (Or.inr ⟨by rfl, rfl⟩) (by assumption) ?_))
        (try simp only [List.getElem_toArray, List.getElem_cons_succ, List.getElem_cons_zero, Act.put, List.setIfInBounds_toArray, List.set_cons_zero, List.set_cons_succ])
        (first
          | (refine wpAnyH_take (i := 19) (v := ?_) rfl (by kernel_rfl) (by kernel_rfl) (by kernel_rfl) (fun _ _ _ h => h) (Or.inl ⟨by rfl, ?_⟩) (by assumption) ?_; rotate_left; focus (intro w hSw; (try dsimp only at hSw); go_simp; (try with_reducible rfl); done))
          | (refine wpAnyH_take (i := 19) (v := undef) rfl (by kernel_rfl) (by kernel_rfl) (by kernel_rfl) (fun _ _ _ h => h) (Or.inr ⟨by rfl, rfl⟩) (by assumption) ?_))
        (try simp only [List.getElem_toArray, List.getElem_cons_succ, List.getElem_cons_zero, Act.put, List.setIfInBounds_toArray, List.set_cons_zero, List.set_cons_succ])
        (first
          | (refine wpAnyH_take (i := 20) (v := ?_) rfl (by kernel_rfl) (by kernel_rfl) (by kernel_rfl) (fun _ _ _ h => h) (Or.inl ⟨by rfl, ?_⟩) (by assumption) ?_; rotate_left; focus (intro w hSw; (try dsimp only at hSw); go_simp; (try with_reducible rfl); done))
          | (refine wpAnyH_take (i := 20) (v := undef) rfl (by kernel_rfl) (by kernel_rfl) (by kernel_rfl) (fun _ _ _ h => h) (Or.inr ⟨by rfl, rfl⟩) (by assumption) ?_))
        (try simp only [List.getElem_toArray, List.getElem_cons_succ, List.getElem_cons_zero, Act.put, List.setIfInBounds_toArray, List.set_cons_zero, List.set_cons_succ])
        refine wpAnyH_take (i := 21) (v := ?_) rfl (by kernel_rfl) (by kernel_rfl) (by kernel_rfl) (fun _ _ _ h => h) (Or.inl ⟨by rfl, ?_⟩) (by assumption) ?_
        rotate_left
        focus (intro w hSw; (try dsimp only at hSw); go_simp; (try with_reducible rfl); done)
        (try simp only [List.getElem_toArray, List.getElem_cons_succ, List.getElem_cons_zero, Act.put, List.setIfInBounds_toArray, List.set_cons_zero, List.set_cons_succ])
        refine wpAnyH_take (i := 22) (v := ?_) rfl (by kernel_rfl) (by kernel_rfl) (by kernel_rfl) (fun _ _ _ h => h) (Or.inl ⟨by rfl, ?_⟩) (by assumption) ?_
        rotate_left
        focus (intro w hSw; (try dsimp only at hSw); go_simp; (try with_reducible rfl); done)
        (try simp only [List.getElem_toArray, List.getElem_cons_succ, List.getElem_cons_zero, Act.put, List.setIfInBounds_toArray, List.set_cons_zero, List.set_cons_succ])
        refine wpAnyH_done (by kernel_rfl) ?_ _
        refine NoPanic.normal ?_
        all_goals go_wp2_with fail
        all_goals go_meet
        all_goals exact ⟨rfl, hs⟩
      · have g0 : (o3 == 0) = true := by simp; omega
        have g1 : (o6 == 0) = false := by simp; omega
        have g2 : decide (o5 < 0) = false := decide_eq_false (by omega)
        clear hh HPATH E1 E2 E4 HROUND HFLOOR H0 HY HN HN1 HT d1 d2 d3 d4 zl kl zi ki
        go_wp2_with fail
        have ha := ha.drew
        have zf := zf.drew
        have ka := ka.drew
        have kf := kf.drew
        have zg := zg.drew
        have kg := kg.drew
        have zh := zh.drew
        have kh := kh.drew
        have hs := hs.drew
        have B0 := b_drew B0
        refine wp_region_noPanic ?_
        refine wp_region_held_drew (S := fun w' => w'.cell? ⟨w.heap.size, 0, none⟩ = some (.bool ba) ∧ w'.cell? ⟨w.heap.size, 1, none⟩ = some (.slice Aa na ca) ∧ w'.cell? ⟨w.heap.size, 2, none⟩ = some (.slice Ba ma da) ∧ w'.cell? ⟨w3.heap.size, 0, none⟩ = some (.bool bf) ∧ w'.cell? ⟨w3.heap.size, 1, none⟩ = some (.slice Af nf cf) ∧ w'.cell? ⟨w3.heap.size, 2, none⟩ = some (.slice Bf mf df) ∧ w'.cell? ⟨w31.heap.size, 0, none⟩ = some (.bool bg) ∧ w'.cell? ⟨w31.heap.size, 1, none⟩ = some (.slice Ag ng cg) ∧ w'.cell? ⟨w31.heap.size, 2, none⟩ = some (.slice Bg mg dg) ∧ w'.cell? ⟨w61.heap.size, 0, none⟩ = some (.bool bh) ∧ w'.cell? ⟨w61.heap.size, 1, none⟩ = some (.slice Ah nh ch) ∧ w'.cell? ⟨w61.heap.size, 2, none⟩ = some (.slice Bh mh dh)) (by kernel_rfl) ?_ (fun hHeld => ?_)
        · (try dsimp only); (first | with_reducible exact ⟨ka.c0, ka.c1, ka.c2, kf.c0, kf.c1, kf.c2, kg.c0, kg.c1, kg.c2, kh.c0, kh.c1, kh.c2⟩)
        refine wpAnyH_take (i := 0) (v := ?_) rfl (by kernel_rfl) (by kernel_rfl) (by kernel_rfl) (fun _ _ _ h => h) (Or.inl ⟨by rfl, ?_⟩) (by assumption) ?_
        rotate_left
        focus (intro w hSw; (try dsimp only at hSw); go_simp; (try with_reducible rfl); done)
        (try simp only [List.getElem_toArray, List.getElem_cons_zero, Act.put, List.setIfInBounds_toArray, List.set_cons_zero, List.set_cons_succ])
        refine wpAnyH_take (i := 1) (v := ?_) rfl (by kernel_rfl) (by kernel_rfl) (by kernel_rfl) (fun _ _ _ h => h) (Or.inl ⟨by rfl, ?_⟩) (by assumption) ?_
        rotate_left
        focus (intro w hSw; (try dsimp only at hSw); go_simp; (try with_reducible rfl); done)
        (try simp only [List.getElem_toArray, List.getElem_cons_succ, List.getElem_cons_zero, Act.put, List.setIfInBounds_toArray, List.set_cons_zero, List.set_cons_succ])
        refine wpAnyH_ready (rs := [2]) (by kernel_rfl) (by simp) ?_
        refine AllReadyH.cons (o := _) rfl (fun K hK => ?_) AllReadyH.nil
        (try simp only [List.getElem_toArray, List.getElem_cons_succ, List.getElem_cons_zero])
        go_simp
        (go_at_call 13; (with_reducible refine (qcmp_q zg.qv zf.qv ?_ ?_ ?_ ?_ _ E3.out).mono ?_); omega; omega; omega; omega; rintro e w71 ⟨rfl, bb⟩; have ha := ha.below bb; have zf := zf.below bb; have ka := ka.below bb; have kf := kf.below bb; have zg := zg.below bb; have kg := kg.below bb; have zh := zh.below bb; have kh := kh.below bb; have hs := hs.below bb; have B0 := B0.trans (bb.mono B0.size); clear bb)
        (try go_wp2_with fail)
        refine hK.out _ _ ?_ (fun hHeld => ?_)
        · (try dsimp only); (first | with_reducible exact ⟨ka.c0, ka.c1, ka.c2, kf.c0, kf.c1, kf.c2, kg.c0, kg.c1, kg.c2, kh.c0, kh.c1, kh.c2⟩)
        clear hK K
        (try simp only [Act.put, List.setIfInBounds_toArray, List.set_cons_zero, List.set_cons_succ])
        refine wpAnyH_take (i := 3) (v := ?_) rfl (by kernel_rfl) (by kernel_rfl) (by kernel_rfl) (fun _ _ _ h => h) (Or.inl ⟨by rfl, ?_⟩) (by assumption) ?_
        rotate_left
        focus (intro w hSw; (try dsimp only at hSw); go_simp; (try with_reducible rfl); done)
        (try simp only [List.getElem_toArray, List.getElem_cons_succ, List.getElem_cons_zero, Act.put, List.setIfInBounds_toArray, List.set_cons_zero, List.set_cons_succ])
        refine wpAnyH_take (i := 4) (v := ?_) rfl (by kernel_rfl) (by kernel_rfl) (by kernel_rfl) (fun _ _ _ h => h) (Or.inl ⟨by rfl, ?_⟩) (by assumption) ?_
        rotate_left
        focus (intro w hSw; (try dsimp only at hSw); go_simp; (try with_reducible rfl); done)
        (try simp only [List.getElem_toArray, List.getElem_cons_succ, List.getElem_cons_zero, Act.put, List.setIfInBounds_toArray, List.set_cons_zero, List.set_cons_succ])
        (first
          | (refine wpAnyH_take (i := 5) (v := ?_) rfl (by kernel_rfl) (by kernel_rfl) (by kernel_rfl) (fun _ _ _ h => h) (Or.inl ⟨by rfl, ?_⟩) (by assumption) ?_; rotate_left; focus (intro w hSw; (try dsimp only at hSw); go_simp; (try with_reducible rfl); done))
          | (refine wpAnyH_take (i := 5) (v := undef) rfl (by kernel_rfl) (by kernel_rfl) (by kernel_rfl) (fun _ _ _ h => h) (Or.inr ⟨by rfl, rfl⟩) (by assumption) ?_))
        (try simp only [List.getElem_toArray, List.getElem_cons_succ, List.getElem_cons_zero, Act.put, List.setIfInBounds_toArray, List.set_cons_zero, List.set_cons_succ])
        (first
          | (refine wpAnyH_take (i := 6) (v := ?_) rfl (by kernel_rfl) (by kernel_rfl) (by kernel_rfl) (fun _ _ _ h => h) (Or.inl ⟨by rfl, ?_⟩) (by assumption) ?_; rotate_left; focus (intro w hSw; (try dsimp only at hSw); go_simp; (try with_reducible rfl); done))
          | (refine wpAnyH_take (i := 6) (v := undef) rfl (by kernel_rfl) (by kernel_rfl) (by kernel_rfl) (fun _ _ _ h => h) (Or.inr ⟨by rfl, rfl⟩) (by assumption) ?_))
        (try simp only [List.getElem_toArray, List.getElem_cons_succ, List.getElem_cons_zero, Act.put, List.setIfInBounds_toArray, List.set_cons_zero, List.set_cons_succ])
        refine wpAnyH_ready (rs := [7]) (by kernel_rfl) (by simp) ?_
        refine AllReadyH.cons (o := _) rfl (fun K hK => ?_) AllReadyH.nil
        (try simp only [List.getElem_toArray, List.getElem_cons_succ, List.getElem_cons_zero])
        go_simp
        (go_at_call 13; (with_reducible refine (qcmp_q ha zh.qv ?_ ?_ ?_ ?_ _ E5.out).mono ?_); omega; omega; omega; omega; rintro e w72 ⟨rfl, bb⟩; have ha := ha.below bb; have zf := zf.below bb; have ka := ka.below bb; have kf := kf.below bb; have zg := zg.below bb; have kg := kg.below bb; have zh := zh.below bb; have kh := kh.below bb; have hs := hs.below bb; have B0 := B0.trans (bb.mono B0.size); clear bb)
        (try go_wp2_with fail)
        refine hK.out _ _ ?_ (fun hHeld => ?_)
        · (try dsimp only); (first | with_reducible exact ⟨ka.c0, ka.c1, ka.c2, kf.c0, kf.c1, kf.c2, kg.c0, kg.c1, kg.c2, kh.c0, kh.c1, kh.c2⟩)
        clear hK K
        (try simp only [Act.put, List.setIfInBounds_toArray, List.set_cons_zero, List.set_cons_succ])
        (first
          | (refine wpAnyH_take (i := 8) (v := ?_) rfl (by kernel_rfl) (by kernel_rfl) (by kernel_rfl) (fun _ _ _ h => h) (Or.inl ⟨by rfl, ?_⟩) (by assumption) ?_; rotate_left; focus (intro w hSw; (try dsimp only at hSw); go_simp; (try with_reducible rfl); done))
          | (refine wpAnyH_take (i := 8) (v := undef) rfl (by kernel_rfl) (by kernel_rfl) (by kernel_rfl) (fun _ _ _ h => h) (Or.inr ⟨by rfl, rfl⟩) (by assumption) ?_))
        (try simp only [List.getElem_toArray, List.getElem_cons_succ, List.getElem_cons_zero, Act.put, List.setIfInBounds_toArray, List.set_cons_zero, List.set_cons_succ])
        refine wpAnyH_take (i := 9) (v := ?_) rfl (by kernel_rfl) (by kernel_rfl) (by kernel_rfl) (fun _ _ _ h => h) (Or.inl ⟨by rfl, ?_⟩) (by assumption) ?_
        rotate_left
        focus (intro w hSw; (try dsimp only at hSw); go_simp; (try with_reducible rfl); done)
        (try simp only [List.getElem_toArray, List.getElem_cons_succ, List.getElem_cons_zero, Act.put, List.setIfInBounds_toArray, List.set_cons_zero, List.set_cons_succ])
        refine wpAnyH_take (i := 10) (v := ?_) rfl (by kernel_rfl) (by kernel_rfl) (by kernel_rfl) (fun _ _ _ h => h) (Or.inl ⟨by rfl, ?_⟩) (by assumption) ?_
        rotate_left
        focus (intro w hSw; (try dsimp only at hSw); go_simp; (try with_reducible rfl); done)
        (try simp only [List.getElem_toArray, List.getElem_cons_succ, List.getElem_cons_zero, Act.put, List.setIfInBounds_toArray, List.set_cons_zero, List.set_cons_succ])
        refine wpAnyH_take (i := 11) (v := ?_) rfl (by kernel_rfl) (by kernel_rfl) (by kernel_rfl) (fun _ _ _ h => h) (Or.inl ⟨by rfl, ?_⟩) (by assumption) ?_
        rotate_left
        focus (intro w hSw; (try dsimp only at hSw); go_simp; (try with_reducible rfl); done)
        (try simp only [List.getElem_toArray, List.getElem_cons_succ, List.getElem_cons_zero, Act.put, List.setIfInBounds_toArray, List.set_cons_zero, List.set_cons_succ])
        refine wpAnyH_take (i := 12) (v := ?_) rfl (by kernel_rfl) (by kernel_rfl) (by kernel_rfl) (fun _ _ _ h => h) (Or.inl ⟨by rfl, ?_⟩) (by assumption) ?_
        rotate_left
        focus (intro w hSw; (try dsimp only at hSw); go_simp; (try with_reducible rfl); done)
        (try simp only [List.getElem_toArray, List.getElem_cons_succ, List.getElem_cons_zero, Act.put, List.setIfInBounds_toArray, List.set_cons_zero, List.set_cons_succ])
        refine wpAnyH_ready (rs := [13]) (by kernel_rfl) (by simp) ?_
        refine AllReadyH.cons (o := _) rfl (fun K hK => ?_) AllReadyH.nil
        (try simp only [List.getElem_toArray, List.getElem_cons_succ, List.getElem_cons_zero])
        go_simp
        (go_at_call 23; (with_reducible refine (qneg_q zf.qv ?_ ?_).mono ?_); omega; omega; rintro e w73 ⟨b71, A71, n71, c71, B71, m71, d71, rfl, z71, bb⟩; have ha := ha.below bb; have zf := zf.below bb; have ka := ka.below bb; have kf := kf.below bb; have zg := zg.below bb; have kg := kg.below bb; have zh := zh.below bb; have kh := kh.below bb; have hs := hs.below bb; have B0 := B0.trans (bb.mono B0.size); clear bb)
        (try go_wp2_with fail)
        refine hK.out _ _ ?_ (fun hHeld => ?_)
        · (try dsimp only); (first | with_reducible exact ⟨ka.c0, ka.c1, ka.c2, kf.c0, kf.c1, kf.c2, kg.c0, kg.c1, kg.c2, kh.c0, kh.c1, kh.c2⟩)
        clear hK K
        (try simp only [Act.put, List.setIfInBounds_toArray, List.set_cons_zero, List.set_cons_succ])
        refine wpAnyH_ready (rs := [14]) (by kernel_rfl) (by simp) ?_
        refine AllReadyH.cons (o := _) rfl (fun K hK => ?_) AllReadyH.nil
        (try simp only [List.getElem_toArray, List.getElem_cons_succ, List.getElem_cons_zero])
        go_simp
        (go_at_call 13; (with_reducible refine (qcmp_q zg.qv z71.qv ?_ ?_ ?_ ?_ _ E6.out).mono ?_); omega; omega; omega; omega; rintro e w74 ⟨rfl, bb⟩; have ha := ha.below bb; have zf := zf.below bb; have ka := ka.below bb; have kf := kf.below bb; have zg := zg.below bb; have kg := kg.below bb; have zh := zh.below bb; have kh := kh.below bb; have hs := hs.below bb; have z71 := z71.below bb; have B0 := B0.trans (bb.mono B0.size); clear bb)
        (try go_wp2_with fail)
        refine hK.out _ _ ?_ (fun hHeld => ?_)
        · (try dsimp only); (first | with_reducible exact ⟨ka.c0, ka.c1, ka.c2, kf.c0, kf.c1, kf.c2, kg.c0, kg.c1, kg.c2, kh.c0, kh.c1, kh.c2⟩)
        clear hK K
        (try simp only [Act.put, List.setIfInBounds_toArray, List.set_cons_zero, List.set_cons_succ])
        refine wpAnyH_take (i := 15) (v := ?_) rfl (by kernel_rfl) (by kernel_rfl) (by kernel_rfl) (fun _ _ _ h => h) (Or.inl ⟨by rfl, ?_⟩) (by assumption) ?_
        rotate_left
        focus (intro w hSw; (try dsimp only at hSw); go_simp; (try with_reducible rfl); done)
        (try simp only [List.getElem_toArray, List.getElem_cons_succ, List.getElem_cons_zero, Act.put, List.setIfInBounds_toArray, List.set_cons_zero, List.set_cons_succ])
        refine wpAnyH_take (i := 16) (v := ?_) rfl (by kernel_rfl) (by kernel_rfl) (by kernel_rfl) (fun _ _ _ h => h) (Or.inl ⟨by rfl, ?_⟩) (by assumption) ?_
        rotate_left
        focus (intro w hSw; (try dsimp only at hSw); go_simp; (try with_reducible rfl); done)
        (try simp only [List.getElem_toArray, List.getElem_cons_succ, List.getElem_cons_zero, Act.put, List.setIfInBounds_toArray, List.set_cons_zero, List.set_cons_succ])
        (first
          | (refine wpAnyH_take (i := 17) (v := ?_) rfl (by kernel_rfl) (by kernel_rfl) (by kernel_rfl) (fun _ _ _ h => h) (Or.inl ⟨by rfl, ?_⟩) (by assumption) ?_; rotate_left; focus (intro w hSw; (try dsimp only at hSw); go_simp; (try with_reducible rfl); done))
          | (refine wpAnyH_take (i := 17) (v := undef) rfl (by kernel_rfl) (by kernel_rfl) (by kernel_rfl) (fun _ _ _ h => h) (Or.inr ⟨by rfl, rfl⟩) (by assumption) ?_))
        (try simp only [List.getElem_toArray, List.getElem_cons_succ, List.getElem_cons_zero, Act.put, List.setIfInBounds_toArray, List.set_cons_zero, List.set_cons_succ])
        (first
          | (refine wpAnyH_take (i := 18) (v := ?_) rfl (by kernel_rfl) (by kernel_rfl) (by kernel_rfl) (fun _ _ _ h => h) (Or.inl ⟨by rfl, ?_⟩) (by assumption) ?_; rotate_left; focus (intro w hSw; (try dsimp only at hSw); go_simp; (try with_reducible rfl); done))
          | (refine wpAnyH_take (i := 18) (v := undef) rfl (by kernel_rfl) (by kernel_rfl) (by kernel_rfl) (fun _ _ _ h => h) (Or.inr ⟨by rfl, rfl⟩) (by assumption) ?_))
        (try simp only [List.getElem_toArray, List.getElem_cons_succ, List.getElem_cons_zero, Act.put, List.setIfInBounds_toArray, List.set_cons_zero, List.set_cons_succ])
        (first
          | (refine wpAnyH_take (i := 19) (v := ?_) rfl (by kernel_rfl) (by kernel_rfl) (by kernel_rfl) (fun _ _ _ h => h) (Or.inl ⟨by rfl, ?_⟩) (by assumption) ?_; rotate_left; focus (intro w hSw; (try dsimp only at hSw); go_simp; (try with_reducible rfl); done))
          | (refine wpAnyH_take (i := 19) (v := undef) rfl (by kernel_rfl) (by kernel_rfl) (by kernel_rfl) (fun _ _ _ h => h) (Or.inr ⟨by rfl, rfl⟩) (by assumption) ?_))
        (try simp only [List.getElem_toArray, List.getElem_cons_succ, List.getElem_cons_zero, Act.put, List.setIfInBounds_toArray, List.set_cons_zero, List.set_cons_succ])
        (first
          | (refine wpAnyH_take (i := 20) (v := ?_) rfl (by kernel_rfl) (by kernel_rfl) (by kernel_rfl) (fun _ _ _ h => h) (Or.inl ⟨by rfl, ?_⟩) (by assumption) ?_; rotate_left; focus (intro w hSw; (try dsimp only at hSw); go_simp; (try with_reducible rfl); done))
          | (refine wpAnyH_take (i := 20) (v := undef) rfl (by kernel_rfl) (by kernel_rfl) (by kernel_rfl) (fun _ _ _ h => h) (Or.inr ⟨by rfl, rfl⟩) (by assumption) ?_))
        (try simp only [List.getElem_toArray, List.getElem_cons_succ, List.getElem_cons_zero, Act.put, List.setIfInBounds_toArray, List.set_cons_zero, List.set_cons_succ])
        refine wpAnyH_take (i := 21) (v := ?_) rfl (by kernel_rfl) (by kernel_rfl) (by kernel_rfl) (fun _ _ _ h => h) (Or.inl ⟨by rfl, ?_⟩) (by assumption) ?_
        rotate_left
        focus (intro w hSw; (try dsimp only at hSw); go_simp; (try with_reducible rfl); done)
        (try simp only [List.getElem_toArray, List.getElem_cons_succ, List.getElem_cons_zero, Act.put, List.setIfInBounds_toArray, List.set_cons_zero, List.set_cons_succ])
        refine wpAnyH_take (i := 22) (v := ?_) rfl (by kernel_rfl) (by kernel_rfl) (by kernel_rfl) (fun _ _ _ h => h) (Or.inl ⟨by rfl, ?_⟩) (by assumption) ?_
        rotate_left
        focus (intro w hSw; (try dsimp only at hSw); go_simp; (try with_reducible rfl); done)
        (try simp only [List.getElem_toArray, List.getElem_cons_succ, List.getElem_cons_zero, Act.put, List.setIfInBounds_toArray, List.set_cons_zero, List.set_cons_succ])
        refine wpAnyH_done (by kernel_rfl) ?_ _
        refine NoPanic.normal ?_
        all_goals go_wp2_with fail
        all_goals go_meet
        all_goals exact ⟨rfl, hs⟩
      · have g0 : (o3 == 0) = false := by simp; omega
        have g1 : (o6 == 0) = true := by simp; omega
        have g3 : decide (0 < o5) = false := decide_eq_false (by omega)
        clear hh HPATH E1 E2 E4 HROUND HFLOOR H0 HY HN HN1 HT d1 d2 d3 d4 zl kl zi ki
        go_wp2_with fail
        have ha := ha.drew
        have zf := zf.drew
        have ka := ka.drew
        have kf := kf.drew
        have zg := zg.drew
        have kg := kg.drew
        have zh := zh.drew
        have kh := kh.drew
        have hs := hs.drew
        have B0 := b_drew B0
        refine wp_region_noPanic ?_
        refine wp_region_held_drew (S := fun w' => w'.cell? ⟨w.heap.size, 0, none⟩ = some (.bool ba) ∧ w'.cell? ⟨w.heap.size, 1, none⟩ = some (.slice Aa na ca) ∧ w'.cell? ⟨w.heap.size, 2, none⟩ = some (.slice Ba ma da) ∧ w'.cell? ⟨w3.heap.size, 0, none⟩ = some (.bool bf) ∧ w'.cell? ⟨w3.heap.size, 1, none⟩ = some (.slice Af nf cf) ∧ w'.cell? ⟨w3.heap.size, 2, none⟩ = some (.slice Bf mf df) ∧ w'.cell? ⟨w31.heap.size, 0, none⟩ = some (.bool bg) ∧ w'.cell? ⟨w31.heap.size, 1, none⟩ = some (.slice Ag ng cg) ∧ w'.cell? ⟨w31.heap.size, 2, none⟩ = some (.slice Bg mg dg) ∧ w'.cell? ⟨w61.heap.size, 0, none⟩ = some (.bool bh) ∧ w'.cell? ⟨w61.heap.size, 1, none⟩ = some (.slice Ah nh ch) ∧ w'.cell? ⟨w61.heap.size, 2, none⟩ = some (.slice Bh mh dh)) (by kernel_rfl) ?_ (fun hHeld => ?_)
        · (try dsimp only); (first | with_reducible exact ⟨ka.c0, ka.c1, ka.c2, kf.c0, kf.c1, kf.c2, kg.c0, kg.c1, kg.c2, kh.c0, kh.c1, kh.c2⟩)
        refine wpAnyH_take (i := 0) (v := ?_) rfl (by kernel_rfl) (by kernel_rfl) (by kernel_rfl) (fun _ _ _ h => h) (Or.inl ⟨by rfl, ?_⟩) (by assumption) ?_
        rotate_left
        focus (intro w hSw; (try dsimp only at hSw); go_simp; (try with_reducible rfl); done)
        (try simp only [List.getElem_toArray, List.getElem_cons_zero, Act.put, List.setIfInBounds_toArray, List.set_cons_zero, List.set_cons_succ])
        refine wpAnyH_take (i := 1) (v := ?_) rfl (by kernel_rfl) (by kernel_rfl) (by kernel_rfl) (fun _ _ _ h => h) (Or.inl ⟨by rfl, ?_⟩) (by assumption) ?_
        rotate_left
        focus (intro w hSw; (try dsimp only at hSw); go_simp; (try with_reducible rfl); done)
        (try simp only [List.getElem_toArray, List.getElem_cons_succ, List.getElem_cons_zero, Act.put, List.setIfInBounds_toArray, List.set_cons_zero, List.set_cons_succ])
        refine wpAnyH_ready (rs := [2]) (by kernel_rfl) (by simp) ?_
        refine AllReadyH.cons (o := _) rfl (fun K hK => ?_) AllReadyH.nil
        (try simp only [List.getElem_toArray, List.getElem_cons_succ, List.getElem_cons_zero])
        go_simp
        (go_at_call 13; (with_reducible refine (qcmp_q zg.qv zf.qv ?_ ?_ ?_ ?_ _ E3.out).mono ?_); omega; omega; omega; omega; rintro e w71 ⟨rfl, bb⟩; have ha := ha.below bb; have zf := zf.below bb; have ka := ka.below bb; have kf := kf.below bb; have zg := zg.below bb; have kg := kg.below bb; have zh := zh.below bb; have kh := kh.below bb; have hs := hs.below bb; have B0 := B0.trans (bb.mono B0.size); clear bb)
        (try go_wp2_with fail)
        refine hK.out _ _ ?_ (fun hHeld => ?_)
        · (try dsimp only); (first | with_reducible exact ⟨ka.c0, ka.c1, ka.c2, kf.c0, kf.c1, kf.c2, kg.c0, kg.c1, kg.c2, kh.c0, kh.c1, kh.c2⟩)
        clear hK K
        (try simp only [Act.put, List.setIfInBounds_toArray, List.set_cons_zero, List.set_cons_succ])
        refine wpAnyH_take (i := 3) (v := ?_) rfl (by kernel_rfl) (by kernel_rfl) (by kernel_rfl) (fun _ _ _ h => h) (Or.inl ⟨by rfl, ?_⟩) (by assumption) ?_
        rotate_left
        focus (intro w hSw; (try dsimp only at hSw); go_simp; (try with_reducible rfl); done)
        (try simp only [List.getElem_toArray, List.getElem_cons_succ, List.getElem_cons_zero, Act.put, List.setIfInBounds_toArray, List.set_cons_zero, List.set_cons_succ])
        refine wpAnyH_take (i := 4) (v := ?_) rfl (by kernel_rfl) (by kernel_rfl) (by kernel_rfl) (fun _ _ _ h => h) (Or.inl ⟨by rfl, ?_⟩) (by assumption) ?_
        rotate_left
        focus (intro w hSw; (try dsimp only at hSw); go_simp; (try with_reducible rfl); done)
        (try simp only [List.getElem_toArray, List.getElem_cons_succ, List.getElem_cons_zero, Act.put, List.setIfInBounds_toArray, List.set_cons_zero, List.set_cons_succ])
        (first
          | (refine wpAnyH_take (i := 5) (v := ?_) rfl (by kernel_rfl) (by kernel_rfl) (by kernel_rfl) (fun _ _ _ h => h) (Or.inl ⟨by rfl, ?_⟩) (by assumption) ?_; rotate_left; focus (intro w hSw; (try dsimp only at hSw); go_simp; (try with_reducible rfl); done))
          | (refine wpAnyH_take (i := 5) (v := undef) rfl (by kernel_rfl) (by kernel_rfl) (by kernel_rfl) (fun _ _ _ h => h) (Or.inr ⟨by rfl, rfl⟩) (by assumption) ?_))
        (try simp only [List.getElem_toArray, List.getElem_cons_succ, List.getElem_cons_zero, Act.put, List.setIfInBounds_toArray, List.set_cons_zero, List.set_cons_succ])
        (first
          | (refine wpAnyH_take (i := 6) (v := ?_) rfl (by kernel_rfl) (by kernel_rfl) (by kernel_rfl) (fun _ _ _ h => h) (Or.inl ⟨by rfl, ?_⟩) (by assumption) ?_; rotate_left; focus (intro w hSw; (try dsimp only at hSw); go_simp; (try with_reducible rfl); done))
          | (refine wpAnyH_take (i := 6) (v := undef) rfl (by kernel_rfl) (by kernel_rfl) (by kernel_rfl) (fun _ _ _ h => h) (Or.inr ⟨by rfl, rfl⟩) (by assumption) ?_))
        (try simp only [List.getElem_toArray, List.getElem_cons_succ, List.getElem_cons_zero, Act.put, List.setIfInBounds_toArray, List.set_cons_zero, List.set_cons_succ])
        (first
          | (refine wpAnyH_take (i := 7) (v := ?_) rfl (by kernel_rfl) (by kernel_rfl) (by kernel_rfl) (fun _ _ _ h => h) (Or.inl ⟨by rfl, ?_⟩) (by assumption) ?_; rotate_left; focus (intro w hSw; (try dsimp only at hSw); go_simp; (try with_reducible rfl); done))
          | (refine wpAnyH_take (i := 7) (v := undef) rfl (by kernel_rfl) (by kernel_rfl) (by kernel_rfl) (fun _ _ _ h => h) (Or.inr ⟨by rfl, rfl⟩) (by assumption) ?_))
        (try simp only [List.getElem_toArray, List.getElem_cons_succ, List.getElem_cons_zero, Act.put, List.setIfInBounds_toArray, List.set_cons_zero, List.set_cons_succ])
        (first
          | (refine wpAnyH_take (i := 8) (v := ?_) rfl (by kernel_rfl) (by kernel_rfl) (by kernel_rfl) (fun _ _ _ h => h) (Or.inl ⟨by rfl, ?_⟩) (by assumption) ?_; rotate_left; focus (intro w hSw; (try dsimp only at hSw); go_simp; (try with_reducible rfl); done))
          | (refine wpAnyH_take (i := 8) (v := undef) rfl (by kernel_rfl) (by kernel_rfl) (by kernel_rfl) (fun _ _ _ h => h) (Or.inr ⟨by rfl, rfl⟩) (by assumption) ?_))
        (try simp only [List.getElem_toArray, List.getElem_cons_succ, List.getElem_cons_zero, Act.put, List.setIfInBounds_toArray, List.set_cons_zero, List.set_cons_succ])
        refine wpAnyH_take (i := 9) (v := ?_) rfl (by kernel_rfl) (by kernel_rfl) (by kernel_rfl) (fun _ _ _ h => h) (Or.inl ⟨by rfl, ?_⟩) (by assumption) ?_
        rotate_left
        focus (intro w hSw; (try dsimp only at hSw); go_simp; (try with_reducible rfl); done)
        (try simp only [List.getElem_toArray, List.getElem_cons_succ, List.getElem_cons_zero, Act.put, List.setIfInBounds_toArray, List.set_cons_zero, List.set_cons_succ])
        refine wpAnyH_take (i := 10) (v := ?_) rfl (by kernel_rfl) (by kernel_rfl) (by kernel_rfl) (fun _ _ _ h => h) (Or.inl ⟨by rfl, ?_⟩) (by assumption) ?_
        rotate_left
        focus (intro w hSw; (try dsimp only at hSw); go_simp; (try with_reducible rfl); done)
        (try simp only [List.getElem_toArray, List.getElem_cons_succ, List.getElem_cons_zero, Act.put, List.setIfInBounds_toArray, List.set_cons_zero, List.set_cons_succ])
        refine wpAnyH_take (i := 11) (v := ?_) rfl (by kernel_rfl) (by kernel_rfl) (by kernel_rfl) (fun _ _ _ h => h) (Or.inl ⟨by rfl, ?_⟩) (by assumption) ?_
        rotate_left
        focus (intro w hSw; (try dsimp only at hSw); go_simp; (try with_reducible rfl); done)
        (try simp only [List.getElem_toArray, List.getElem_cons_succ, List.getElem_cons_zero, Act.put, List.setIfInBounds_toArray, List.set_cons_zero, List.set_cons_succ])
        refine wpAnyH_take (i := 12) (v := ?_) rfl (by kernel_rfl) (by kernel_rfl) (by kernel_rfl) (fun _ _ _ h => h) (Or.inl ⟨by rfl, ?_⟩) (by assumption) ?_
        rotate_left
        focus (intro w hSw; (try dsimp only at hSw); go_simp; (try with_reducible rfl); done)
        (try simp only [List.getElem_toArray, List.getElem_cons_succ, List.getElem_cons_zero, Act.put, List.setIfInBounds_toArray, List.set_cons_zero, List.set_cons_succ])
        refine wpAnyH_ready (rs := [13]) (by kernel_rfl) (by simp) ?_
        refine AllReadyH.cons (o := _) rfl (fun K hK => ?_) AllReadyH.nil
        (try simp only [List.getElem_toArray, List.getElem_cons_succ, List.getElem_cons_zero])
        go_simp
        (go_at_call 23; (with_reducible refine (qneg_q zf.qv ?_ ?_).mono ?_); omega; omega; rintro e w72 ⟨b71, A71, n71, c71, B71, m71, d71, rfl, z71, bb⟩; have ha := ha.below bb; have zf := zf.below bb; have ka := ka.below bb; have kf := kf.below bb; have zg := zg.below bb; have kg := kg.below bb; have zh := zh.below bb; have kh := kh.below bb; have hs := hs.below bb; have B0 := B0.trans (bb.mono B0.size); clear bb)
        (try go_wp2_with fail)
        refine hK.out _ _ ?_ (fun hHeld => ?_)
        · (try dsimp only); (first | with_reducible exact ⟨ka.c0, ka.c1, ka.c2, kf.c0, kf.c1, kf.c2, kg.c0, kg.c1, kg.c2, kh.c0, kh.c1, kh.c2⟩)
        clear hK K
        (try simp only [Act.put, List.setIfInBounds_toArray, List.set_cons_zero, List.set_cons_succ])
        refine wpAnyH_ready (rs := [14]) (by kernel_rfl) (by simp) ?_
        refine AllReadyH.cons (o := _) rfl (fun K hK => ?_) AllReadyH.nil
        (try simp only [List.getElem_toArray, List.getElem_cons_succ, List.getElem_cons_zero])
        go_simp
        (go_at_call 13; (with_reducible refine (qcmp_q zg.qv z71.qv ?_ ?_ ?_ ?_ _ E6.out).mono ?_); omega; omega; omega; omega; rintro e w73 ⟨rfl, bb⟩; have ha := ha.below bb; have zf := zf.below bb; have ka := ka.below bb; have kf := kf.below bb; have zg := zg.below bb; have kg := kg.below bb; have zh := zh.below bb; have kh := kh.below bb; have hs := hs.below bb; have z71 := z71.below bb; have B0 := B0.trans (bb.mono B0.size); clear bb)
        (try go_wp2_with fail)
        refine hK.out _ _ ?_ (fun hHeld => ?_)
        · (try dsimp only); (first | with_reducible exact ⟨ka.c0, ka.c1, ka.c2, kf.c0, kf.c1, kf.c2, kg.c0, kg.c1, kg.c2, kh.c0, kh.c1, kh.c2⟩)
        clear hK K
        (try simp only [Act.put, List.setIfInBounds_toArray, List.set_cons_zero, List.set_cons_succ])
        refine wpAnyH_take (i := 15) (v := ?_) rfl (by kernel_rfl) (by kernel_rfl) (by kernel_rfl) (fun _ _ _ h => h) (Or.inl ⟨by rfl, ?_⟩) (by assumption) ?_
        rotate_left
        focus (intro w hSw; (try dsimp only at hSw); go_simp; (try with_reducible rfl); done)
        (try simp only [List.getElem_toArray, List.getElem_cons_succ, List.getElem_cons_zero, Act.put, List.setIfInBounds_toArray, List.set_cons_zero, List.set_cons_succ])
        refine wpAnyH_take (i := 16) (v := ?_) rfl (by kernel_rfl) (by kernel_rfl) (by kernel_rfl) (fun _ _ _ h => h) (Or.inl ⟨by rfl, ?_⟩) (by assumption) ?_
        rotate_left
        focus (intro w hSw; (try dsimp only at hSw); go_simp; (try with_reducible rfl); done)
        (try simp only [List.getElem_toArray, List.getElem_cons_succ, List.getElem_cons_zero, Act.put, List.setIfInBounds_toArray, List.set_cons_zero, List.set_cons_succ])
        (first
          | (refine wpAnyH_take (i := 17) (v := ?_) rfl (by kernel_rfl) (by kernel_rfl) (by kernel_rfl) (fun _ _ _ h => h) (Or.inl ⟨by rfl, ?_⟩) (by assumption) ?_; rotate_left; focus (intro w hSw; (try dsimp only at hSw); go_simp; (try with_reducible rfl); done))
          | (refine wpAnyH_take (i := 17) (v := undef) rfl (by kernel_rfl) (by kernel_rfl) (by kernel_rfl) (fun _ _ _ h => h) (Or.inr ⟨by rfl, rfl⟩) (by assumption) ?_))
        (try simp only [List.getElem_toArray, List.getElem_cons_succ, List.getElem_cons_zero, Act.put, List.setIfInBounds_toArray, List.set_cons_zero, List.set_cons_succ])
        (first
          | (refine wpAnyH_take (i := 18) (v := ?_) rfl (by kernel_rfl) (by kernel_rfl) (by kernel_rfl) (fun _ _ _ h => h) (Or.inl ⟨by rfl, ?_⟩) (by assumption) ?_; rotate_left; focus (intro w hSw; (try dsimp only at hSw); go_simp; (try with_reducible rfl); done))
          | (refine wpAnyH_take (i := 18) (v := undef) rfl (by kernel_rfl) (by kernel_rfl) (by kernel_rfl) (fun _ _ _ h => h) (Or.inr ⟨by rfl, rfl⟩) (by assumption) ?_))
        (try simp only [List.getElem_toArray, List.getElem_cons_succ, List.getElem_cons_zero, Act.put, List.setIfInBounds_toArray, List.set_cons_zero, List.set_cons_succ])
        refine wpAnyH_ready (rs := [19]) (by kernel_rfl) (by simp) ?_
        refine AllReadyH.cons (o := _) rfl (fun K hK => ?_) AllReadyH.nil
        (try simp only [List.getElem_toArray, List.getElem_cons_succ, List.getElem_cons_zero])
        go_simp
        (go_at_call 13; (with_reducible refine (qcmp_q ha zh.qv ?_ ?_ ?_ ?_ _ E5.out).mono ?_); omega; omega; omega; omega; rintro e w74 ⟨rfl, bb⟩; have ha := ha.below bb; have zf := zf.below bb; have ka := ka.below bb; have kf := kf.below bb; have zg := zg.below bb; have kg := kg.below bb; have zh := zh.below bb; have kh := kh.below bb; have hs := hs.below bb; have z71 := z71.below bb; have B0 := B0.trans (bb.mono B0.size); clear bb)
        (try go_wp2_with fail)
        refine hK.out _ _ ?_ (fun hHeld => ?_)
        · (try dsimp only); (first | with_reducible exact ⟨ka.c0, ka.c1, ka.c2, kf.c0, kf.c1, kf.c2, kg.c0, kg.c1, kg.c2, kh.c0, kh.c1, kh.c2⟩)
        clear hK K
        (try simp only [Act.put, List.setIfInBounds_toArray, List.set_cons_zero, List.set_cons_succ])
        (first
          | (refine wpAnyH_take (i := 20) (v := ?_) rfl (by kernel_rfl) (by kernel_rfl) (by kernel_rfl) (fun _ _ _ h => h) (Or.inl ⟨by rfl, ?_⟩) (by assumption) ?_; rotate_left; focus (intro w hSw; (try dsimp only at hSw); go_simp; (try with_reducible rfl); done))
          | (refine wpAnyH_take (i := 20) (v := undef) rfl (by kernel_rfl) (by kernel_rfl) (by kernel_rfl) (fun _ _ _ h => h) (Or.inr ⟨by rfl, rfl⟩) (by assumption) ?_))
        (try simp only [List.getElem_toArray, List.getElem_cons_succ, List.getElem_cons_zero, Act.put, List.setIfInBounds_toArray, List.set_cons_zero, List.set_cons_succ])
        refine wpAnyH_take (i := 21) (v := ?_) rfl (by kernel_rfl) (by kernel_rfl) (by kernel_rfl) (fun _ _ _ h => h) (Or.inl ⟨by rfl, ?_⟩) (by assumption) ?_
        rotate_left
        focus (intro w hSw; (try dsimp only at hSw); go_simp; (try with_reducible rfl); done)
        (try simp only [List.getElem_toArray, List.getElem_cons_succ, List.getElem_cons_zero, Act.put, List.setIfInBounds_toArray, List.set_cons_zero, List.set_cons_succ])
        refine wpAnyH_take (i := 22) (v := ?_) rfl (by kernel_rfl) (by kernel_rfl) (by kernel_rfl) (fun _ _ _ h => h) (Or.inl ⟨by rfl, ?_⟩) (by assumption) ?_
        rotate_left
        focus (intro w hSw; (try dsimp only at hSw); go_simp; (try with_reducible rfl); done)
        (try simp only [List.getElem_toArray, List.getElem_cons_succ, List.getElem_cons_zero, Act.put, List.setIfInBounds_toArray, List.set_cons_zero, List.set_cons_succ])
        refine wpAnyH_done (by kernel_rfl) ?_ _
        refine NoPanic.normal ?_
        all_goals go_wp2_with fail
        all_goals go_meet
        all_goals exact ⟨rfl, hs⟩
    case rest => as_aux_lemma =>
      obtain ⟨rfl, hw⟩ := hcut
      have ka := hw.bq ka (by omega)
      have ki := hw.bq ki (by omega)
      have kf := hw.bq kf (by omega)
      have kl := hw.bq kl (by omega)
      have kg := hw.bq kg (by omega)
      have kh := hw.bq kh (by omega)
      have ha := ha.below hw.1
      have zi := zi.below hw.1
      have zf := zf.below hw.1
      have zl := zl.below hw.1
      have zg := zg.below hw.1
      have zh := zh.below hw.1
      have B0 := B0.trans (hw.1.mono B0.size)
      clear hw
      have ka_0 := ka.c0
      have ka_1 := ka.c1
      have ka_2 := ka.c2
      have kl_0 := kl.c0
      have kl_1 := kl.c1
      have kl_2 := kl.c2
      go_wp2_with fail
      refine (qof_p n 1 HN.out HN1.out (by decide) (by decide) _ (by decide) _ (prat_n n)).mono ?_
      clear ka_0 ka_1 ka_2 kl_0 kl_1 kl_2
      rintro e w81 ⟨bk, Ak, nk, ck, Bk, mk, dk, rfl, zk, bb⟩
      have ha := ha.below bb
      have ka := ka.below bb
      have kl := kl.below bb
      have zl := zl.below bb
      have B0 := B0.trans (bb.mono B0.size)
      clear bb
      have ha := ha.below (below_alloc w81 (.cells #[.bool bk, .slice Ak nk ck, .slice Bk mk dk] 27))
      have ka := ka.below (below_alloc w81 (.cells #[.bool bk, .slice Ak nk ck, .slice Bk mk dk] 27))
      have kl := kl.below (below_alloc w81 (.cells #[.bool bk, .slice Ak nk ck, .slice Bk mk dk] 27))
      have zl := zl.below (below_alloc w81 (.cells #[.bool bk, .slice Ak nk ck, .slice Bk mk dk] 27))
      have zk := zk.below (below_alloc w81 (.cells #[.bool bk, .slice Ak nk ck, .slice Bk mk dk] 27))
      have kk := Bq.new w81 (w81.heap.size) (by simp) (.bool bk) (.slice Ak nk ck) (.slice Bk mk dk)
      have B0 := B0.trans ((below_alloc w81 (.cells #[.bool bk, .slice Ak nk ck, .slice Bk mk dk] 27)).mono B0.size)
      go_wp2_with fail
      have ha := ha.drew
      have ka := ka.drew
      have kl := kl.drew
      have zl := zl.drew
      have zk := zk.drew
      have kk := kk.drew
      have B0 := b_drew B0
      go_region_held3 (fun w' => w'.cell? ⟨w.heap.size, 0, none⟩ = some (.bool ba) ∧ w'.cell? ⟨w.heap.size, 1, none⟩ = some (.slice Aa na ca) ∧ w'.cell? ⟨w.heap.size, 2, none⟩ = some (.slice Ba ma da) ∧ w'.cell? ⟨gl, 0, none⟩ = some (.bool bl) ∧ w'.cell? ⟨gl, 1, none⟩ = some (.slice Al nl cl) ∧ w'.cell? ⟨gl, 2, none⟩ = some (.slice Bl ml dl) ∧ w'.cell? ⟨w81.heap.size, 0, none⟩ = some (.bool bk) ∧ w'.cell? ⟨w81.heap.size, 1, none⟩ = some (.slice Ak nk ck) ∧ w'.cell? ⟨w81.heap.size, 2, none⟩ = some (.slice Bk mk dk)) (first | with_reducible exact ⟨ka.c0, ka.c1, ka.c2, kl.c0, kl.c1, kl.c2, kk.c0, kk.c1, kk.c2⟩)
        (first
          | (go_at_call 16; (with_reducible refine (qadd_q ha zk.qv ?_ ?_ ?_ ?_).mono ?_); omega; omega; omega; omega; rintro e w82 ⟨b81, A81, n81, c81, B81, m81, d81, rfl, z81, bb⟩; have ha := ha.below bb; have ka := ka.below bb; have kl := kl.below bb; have zl := zl.below bb; have zk := zk.below bb; have kk := kk.below bb; have B0 := B0.trans (bb.mono B0.size); clear bb)
          | (go_at_call 20; (with_reducible refine (qfloor_q z81.qv ?_ ?_).mono ?_); omega; omega; rintro e w83 ⟨v82, rfl, z82, bb⟩; have ha := ha.below bb; have ka := ka.below bb; have kl := kl.below bb; have zl := zl.below bb; have zk := zk.below bb; have kk := kk.below bb; have z81 := z81.below bb; have B0 := B0.trans (bb.mono B0.size); clear bb)
          | (go_at_call 25; (with_reducible refine (of_q z82).mono ?_); rintro e w84 ⟨b83, A83, n83, c83, B83, m83, d83, rfl, z83, bb⟩; have ha := ha.below bb; have ka := ka.below bb; have kl := kl.below bb; have zl := zl.below bb; have zk := zk.below bb; have kk := kk.below bb; have z82 := z82.below bb; have B0 := B0.trans (bb.mono B0.size); clear bb)
          | (go_at_call 16; (with_reducible refine (qadd_q zl.qv zk.qv ?_ ?_ ?_ ?_).mono ?_); omega; omega; omega; omega; rintro e w85 ⟨b84, A84, n84, c84, B84, m84, d84, rfl, z84, bb⟩; have ha := ha.below bb; have ka := ka.below bb; have kl := kl.below bb; have zl := zl.below bb; have zk := zk.below bb; have kk := kk.below bb; have z83 := z83.below bb; have B0 := B0.trans (bb.mono B0.size); clear bb)
          | (go_at_call 12; (with_reducible refine (rsame_q z83 z84 (HFLOOR.out)).mono ?_); rintro e w86 ⟨rfl, bb⟩; have ha := ha.below bb; have ka := ka.below bb; have kl := kl.below bb; have zl := zl.below bb; have zk := zk.below bb; have kk := kk.below bb; have z83 := z83.below bb; have z84 := z84.below bb; have B0 := B0.trans (bb.mono B0.size); clear bb)
          | (go_at_call 9; (with_reducible refine (example_walk _ (HT.out.below B0)).mono ?_); rintro e w87 ⟨rfl, bb⟩; have ha := ha.below bb; have ka := ka.below bb; have kl := kl.below bb; have zl := zl.below bb; have zk := zk.below bb; have kk := kk.below bb; have B0 := B0.trans (bb.mono B0.size); clear bb))
      go_wp2
      go_ret
      exact ⟨rfl, B0⟩
theorem ratioRounds_walk (w : World) {va : Value} {xa : Rat} {ka ja : Nat} (ha : Qv w va xa ka ja) (n : Int) (hn : -9223372036854775808 ≤ n) (hn' : n < 9223372036854775808) (ht : Tab w) : Calls Tryd.prog 6 #[va, .int .i64 n] w (BoolEnd true w) := by
  obtain ⟨ba, Aa, na, ca, Ba, ma, da, rfl, _, _, ha⟩ := ha.named
  by_cases la : 8 < na ∨ 8 < ma
  · exact ratioRounds_long_a n w la ht
  exact ratioRounds_all n w ha hn hn' (by omega) ht
end Go.Proofs.YtfdildganfjahaaDoor
