/-
  The walk of garmentlaw03.RatioForms: it returns true, whatever the input.
-/
import Derived.Test.YtfdildganfjahaaDoorRatE
import Derived.Test.YtfdildganfjahaaDoorRatC
import Derived.Test.YtfdildganfjahaaDoorRatSc
namespace Go.Proofs.YtfdildganfjahaaDoor
open Go.RowKit
attribute [local go_sem ↓] Go.wp_at_zero Go.wp_at_succ
set_option linter.unusedVariables false

theorem lawlight {ba : Bool} {Aa : Option Addr} {na ca : Nat} {Ba : Option Addr} {ma da : Nat} {bp : Bool} {Ap : Option Addr} {np cp : Nat} {Bp : Option Addr} {mp dp : Nat} (w : World) (h1 : na ≤ 10 ∧ ma ≤ 10) (h2 : np ≤ 10 ∧ mp ≤ 10) : Calls Tryd.prog 8 #[.agg #[.bool ba, .slice Aa na ca, .slice Ba ma da], .agg #[.bool bp, .slice Ap np cp, .slice Bp mp dp]] w (BoolEnd true w) := by
  have B0 := below_a2 w (.cells #[.bool ba, .slice Aa na ca, .slice Ba ma da] 27) (.cells #[.bool bp, .slice Ap np cp, .slice Bp mp dp] 27)
  have ka := ((Bq.new w (w.heap.size) (by simp) (.bool ba) (.slice Aa na ca) (.slice Ba ma da)).below (below_alloc (w.alloc (.cells #[.bool ba, .slice Aa na ca, .slice Ba ma da] 27)) (.cells #[.bool bp, .slice Ap np cp, .slice Bp mp dp] 27)))
  have kp := (Bq.new (w.alloc (.cells #[.bool ba, .slice Aa na ca, .slice Ba ma da] 27)) (w.heap.size + 1) (by simp) (.bool bp) (.slice Ap np cp) (.slice Bp mp dp))
  go_enter Tryd.func8, Tryd.ntmps8
  have ka_0 := ka.c0
  have ka_1 := ka.c1
  have ka_2 := ka.c2
  have kp_0 := kp.c0
  have kp_1 := kp.c1
  have kp_2 := kp.c2
  go_wp2_with fail
  refine (light_yes ba Aa na ca Ba ma da _ _ (by omega) (by omega)).mono ?_
  clear ka_0 ka_1 ka_2 kp_0 kp_1 kp_2
  rintro e w1 ⟨rfl, bb⟩
  have ka := ka.below bb
  have kp := kp.below bb
  have B0 := B0.trans (bb.mono B0.size)
  clear bb
  have ka_0 := ka.c0
  have ka_1 := ka.c1
  have ka_2 := ka.c2
  have kp_0 := kp.c0
  have kp_1 := kp.c1
  have kp_2 := kp.c2
  go_wp2_with fail
  refine (light_yes bp Ap np cp Bp mp dp _ _ (by omega) (by omega)).mono ?_
  clear ka_0 ka_1 ka_2 kp_0 kp_1 kp_2
  rintro e w2 ⟨rfl, bb⟩
  have ka := ka.below bb
  have kp := kp.below bb
  have B0 := B0.trans (bb.mono B0.size)
  clear bb
  go_wp2
  go_ret
  exact ⟨rfl, B0⟩
theorem lawlight_a {ba : Bool} {Aa : Option Addr} {na ca : Nat} {Ba : Option Addr} {ma da : Nat} {bp : Bool} {Ap : Option Addr} {np cp : Nat} {Bp : Option Addr} {mp dp : Nat} (w : World) (hl : 10 < na ∨ 10 < ma) : Calls Tryd.prog 8 #[.agg #[.bool ba, .slice Aa na ca, .slice Ba ma da], .agg #[.bool bp, .slice Ap np cp, .slice Bp mp dp]] w (BoolEnd false w) := by
  have B0 := below_a2 w (.cells #[.bool ba, .slice Aa na ca, .slice Ba ma da] 27) (.cells #[.bool bp, .slice Ap np cp, .slice Bp mp dp] 27)
  have ka := ((Bq.new w (w.heap.size) (by simp) (.bool ba) (.slice Aa na ca) (.slice Ba ma da)).below (below_alloc (w.alloc (.cells #[.bool ba, .slice Aa na ca, .slice Ba ma da] 27)) (.cells #[.bool bp, .slice Ap np cp, .slice Bp mp dp] 27)))
  have kp := (Bq.new (w.alloc (.cells #[.bool ba, .slice Aa na ca, .slice Ba ma da] 27)) (w.heap.size + 1) (by simp) (.bool bp) (.slice Ap np cp) (.slice Bp mp dp))
  go_enter Tryd.func8, Tryd.ntmps8
  have ka_0 := ka.c0
  have ka_1 := ka.c1
  have ka_2 := ka.c2
  have kp_0 := kp.c0
  have kp_1 := kp.c1
  have kp_2 := kp.c2
  go_wp2_with fail
  refine (light_not ba Aa na ca Ba ma da _ _ (by omega)).mono ?_
  clear ka_0 ka_1 ka_2 kp_0 kp_1 kp_2
  rintro e w1 ⟨rfl, bb⟩
  have ka := ka.below bb
  have kp := kp.below bb
  have B0 := B0.trans (bb.mono B0.size)
  clear bb
  go_wp2
  go_ret
  exact ⟨rfl, B0⟩
theorem lawlight_p {ba : Bool} {Aa : Option Addr} {na ca : Nat} {Ba : Option Addr} {ma da : Nat} {bp : Bool} {Ap : Option Addr} {np cp : Nat} {Bp : Option Addr} {mp dp : Nat} (w : World) (h1 : na ≤ 10 ∧ ma ≤ 10) (hl : 10 < np ∨ 10 < mp) : Calls Tryd.prog 8 #[.agg #[.bool ba, .slice Aa na ca, .slice Ba ma da], .agg #[.bool bp, .slice Ap np cp, .slice Bp mp dp]] w (BoolEnd false w) := by
  have B0 := below_a2 w (.cells #[.bool ba, .slice Aa na ca, .slice Ba ma da] 27) (.cells #[.bool bp, .slice Ap np cp, .slice Bp mp dp] 27)
  have ka := ((Bq.new w (w.heap.size) (by simp) (.bool ba) (.slice Aa na ca) (.slice Ba ma da)).below (below_alloc (w.alloc (.cells #[.bool ba, .slice Aa na ca, .slice Ba ma da] 27)) (.cells #[.bool bp, .slice Ap np cp, .slice Bp mp dp] 27)))
  have kp := (Bq.new (w.alloc (.cells #[.bool ba, .slice Aa na ca, .slice Ba ma da] 27)) (w.heap.size + 1) (by simp) (.bool bp) (.slice Ap np cp) (.slice Bp mp dp))
  go_enter Tryd.func8, Tryd.ntmps8
  have ka_0 := ka.c0
  have ka_1 := ka.c1
  have ka_2 := ka.c2
  have kp_0 := kp.c0
  have kp_1 := kp.c1
  have kp_2 := kp.c2
  go_wp2_with fail
  refine (light_yes ba Aa na ca Ba ma da _ _ (by omega) (by omega)).mono ?_
  clear ka_0 ka_1 ka_2 kp_0 kp_1 kp_2
  rintro e w1 ⟨rfl, bb⟩
  have ka := ka.below bb
  have kp := kp.below bb
  have B0 := B0.trans (bb.mono B0.size)
  clear bb
  have ka_0 := ka.c0
  have ka_1 := ka.c1
  have ka_2 := ka.c2
  have kp_0 := kp.c0
  have kp_1 := kp.c1
  have kp_2 := kp.c2
  go_wp2_with fail
  refine (light_not bp Ap np cp Bp mp dp _ _ (by omega)).mono ?_
  clear ka_0 ka_1 ka_2 kp_0 kp_1 kp_2
  rintro e w2 ⟨rfl, bb⟩
  have ka := ka.below bb
  have kp := kp.below bb
  have B0 := B0.trans (bb.mono B0.size)
  clear bb
  go_wp2
  go_ret
  exact ⟨rfl, B0⟩
set_option maxRecDepth 20000 in
set_option maxHeartbeats 8000000 in
theorem ratioForms_long_a {ba : Bool} {Aa : Option Addr} {na ca : Nat} {Ba : Option Addr} {ma da : Nat} {bp : Bool} {Ap : Option Addr} {np cp : Nat} {Bp : Option Addr} {mp dp : Nat} (f : Nat) (w : World) (hl : 10 < na ∨ 10 < ma) (ht : Tab w) :
    Calls Tryd.prog 3 #[.agg #[.bool ba, .slice Aa na ca, .slice Ba ma da], .agg #[.bool bp, .slice Ap np cp, .slice Bp mp dp], .int .u32 (f : Int)] w (BoolEnd true w) := by
  have HT := Lib.hid ht
  clear ht
  have B0 := below_a2 w (.cells #[.bool ba, .slice Aa na ca, .slice Ba ma da] 27) (.cells #[.bool bp, .slice Ap np cp, .slice Bp mp dp] 27)
  have ka := ((Bq.new w (w.heap.size) (by simp) (.bool ba) (.slice Aa na ca) (.slice Ba ma da)).below (below_alloc (w.alloc (.cells #[.bool ba, .slice Aa na ca, .slice Ba ma da] 27)) (.cells #[.bool bp, .slice Ap np cp, .slice Bp mp dp] 27)))
  have kp := (Bq.new (w.alloc (.cells #[.bool ba, .slice Aa na ca, .slice Ba ma da] 27)) (w.heap.size + 1) (by simp) (.bool bp) (.slice Ap np cp) (.slice Bp mp dp))
  go_enter Tryd.func3, Tryd.ntmps3
  have ka_0 := ka.c0
  have ka_1 := ka.c1
  have ka_2 := ka.c2
  have kp_0 := kp.c0
  have kp_1 := kp.c1
  have kp_2 := kp.c2
  go_wp2_with fail
  refine (lawlight_a _ hl).mono ?_
  clear ka_0 ka_1 ka_2 kp_0 kp_1 kp_2
  rintro e w1 ⟨rfl, bb⟩
  have ka := ka.below bb
  have kp := kp.below bb
  have B0 := B0.trans (bb.mono B0.size)
  clear bb
  have ka_0 := ka.c0
  have ka_1 := ka.c1
  have ka_2 := ka.c2
  have kp_0 := kp.c0
  have kp_1 := kp.c1
  have kp_2 := kp.c2
  go_wp2_with fail
  refine (example_walk _ (HT.out.below B0)).mono ?_
  clear ka_0 ka_1 ka_2 kp_0 kp_1 kp_2
  rintro e w2 ⟨rfl, bb⟩
  have ka := ka.below bb
  have kp := kp.below bb
  have B0 := B0.trans (bb.mono B0.size)
  clear bb
  go_wp2
  go_ret
  exact ⟨rfl, B0⟩
set_option maxRecDepth 20000 in
set_option maxHeartbeats 8000000 in
theorem ratioForms_long_p {ba : Bool} {Aa : Option Addr} {na ca : Nat} {Ba : Option Addr} {ma da : Nat} {bp : Bool} {Ap : Option Addr} {np cp : Nat} {Bp : Option Addr} {mp dp : Nat} (f : Nat) (w : World) (ha : na ≤ 10 ∧ ma ≤ 10) (hl : 10 < np ∨ 10 < mp) (ht : Tab w) :
    Calls Tryd.prog 3 #[.agg #[.bool ba, .slice Aa na ca, .slice Ba ma da], .agg #[.bool bp, .slice Ap np cp, .slice Bp mp dp], .int .u32 (f : Int)] w (BoolEnd true w) := by
  have HT := Lib.hid ht
  clear ht
  have B0 := below_a2 w (.cells #[.bool ba, .slice Aa na ca, .slice Ba ma da] 27) (.cells #[.bool bp, .slice Ap np cp, .slice Bp mp dp] 27)
  have ka := ((Bq.new w (w.heap.size) (by simp) (.bool ba) (.slice Aa na ca) (.slice Ba ma da)).below (below_alloc (w.alloc (.cells #[.bool ba, .slice Aa na ca, .slice Ba ma da] 27)) (.cells #[.bool bp, .slice Ap np cp, .slice Bp mp dp] 27)))
  have kp := (Bq.new (w.alloc (.cells #[.bool ba, .slice Aa na ca, .slice Ba ma da] 27)) (w.heap.size + 1) (by simp) (.bool bp) (.slice Ap np cp) (.slice Bp mp dp))
  go_enter Tryd.func3, Tryd.ntmps3
  have ka_0 := ka.c0
  have ka_1 := ka.c1
  have ka_2 := ka.c2
  have kp_0 := kp.c0
  have kp_1 := kp.c1
  have kp_2 := kp.c2
  go_wp2_with fail
  refine (lawlight_p _ ha hl).mono ?_
  clear ka_0 ka_1 ka_2 kp_0 kp_1 kp_2
  rintro e w1 ⟨rfl, bb⟩
  have ka := ka.below bb
  have kp := kp.below bb
  have B0 := B0.trans (bb.mono B0.size)
  clear bb
  have ka_0 := ka.c0
  have ka_1 := ka.c1
  have ka_2 := ka.c2
  have kp_0 := kp.c0
  have kp_1 := kp.c1
  have kp_2 := kp.c2
  go_wp2_with fail
  refine (example_walk _ (HT.out.below B0)).mono ?_
  clear ka_0 ka_1 ka_2 kp_0 kp_1 kp_2
  rintro e w2 ⟨rfl, bb⟩
  have ka := ka.below bb
  have kp := kp.below bb
  have B0 := B0.trans (bb.mono B0.size)
  clear bb
  go_wp2
  go_ret
  exact ⟨rfl, B0⟩
set_option maxRecDepth 20000 in
set_option maxHeartbeats 8000000 in
theorem ratioForms_zero {ba : Bool} {Aa : Option Addr} {na ca : Nat} {Ba : Option Addr} {ma da : Nat} {bp : Bool} {Ap : Option Addr} {np cp : Nat} {Bp : Option Addr} {mp dp : Nat} {xa : Rat} {xp : Rat} (f : Nat) (w : World) (ha : Qv w (.agg #[.bool ba, .slice Aa na ca, .slice Ba ma da]) xa na ma) (hp : Qv w (.agg #[.bool bp, .slice Ap np cp, .slice Bp mp dp]) xp np mp) (h1 : na ≤ 10 ∧ ma ≤ 10) (h2 : np ≤ 10 ∧ mp ≤ 10) (hf : f < 4294967296) (h0 : xp = 0) (ht : Tab w) :
    Calls Tryd.prog 3 #[.agg #[.bool ba, .slice Aa na ca, .slice Ba ma da], .agg #[.bool bp, .slice Ap np cp, .slice Bp mp dp], .int .u32 (f : Int)] w (BoolEnd true w) := by
  have HT := Lib.hid ht
  clear ht
  have H0 := Lib.hid h0
  clear h0
  obtain ⟨o, ho⟩ : ∃ o, RatN.cmpQ xa xp = o := ⟨_, rfl⟩
  have hself := RatN.cmpQ_self xa
  obtain ⟨t, hx⟩ : ∃ t : ByteArray, t.data.toList = RatN.qdec xa := ⟨⟨(RatN.qdec xa).toArray⟩, rfl⟩
  have HO := Lib.hid ho
  have HSELF := Lib.hid hself
  have HX := Lib.hid hx
  clear ho hself hx
  have hf2 : f / 2 < 4294967296 := by omega
  have hwq : IntKind.u32.wrap ((f : Int) / 2) = ((f / 2 : Nat) : Int) := by rw [IntKind.wrap_u32]; omega
  have B0 := below_a2 w (.cells #[.bool ba, .slice Aa na ca, .slice Ba ma da] 27) (.cells #[.bool bp, .slice Ap np cp, .slice Bp mp dp] 27)
  have ha := ha.below B0
  have hp := hp.below B0
  have ka := ((Bq.new w (w.heap.size) (by simp) (.bool ba) (.slice Aa na ca) (.slice Ba ma da)).below (below_alloc (w.alloc (.cells #[.bool ba, .slice Aa na ca, .slice Ba ma da] 27)) (.cells #[.bool bp, .slice Ap np cp, .slice Bp mp dp] 27)))
  have kp := (Bq.new (w.alloc (.cells #[.bool ba, .slice Aa na ca, .slice Ba ma da] 27)) (w.heap.size + 1) (by simp) (.bool bp) (.slice Ap np cp) (.slice Bp mp dp))
  go_enter Tryd.func3, Tryd.ntmps3
  have ka_0 := ka.c0
  have ka_1 := ka.c1
  have ka_2 := ka.c2
  have kp_0 := kp.c0
  have kp_1 := kp.c1
  have kp_2 := kp.c2
  go_wp2_with fail
  refine (lawlight _ h1 h2).mono ?_
  clear ka_0 ka_1 ka_2 kp_0 kp_1 kp_2
  rintro e w1 ⟨rfl, bb⟩
  have ha := ha.below bb
  have hp := hp.below bb
  have ka := ka.below bb
  have kp := kp.below bb
  have B0 := B0.trans (bb.mono B0.size)
  clear bb
  go_upto_region 3 with fail
  have lka := ka.lt
  have lkp := kp.lt
  have hs : Bw (w1.heap.size) w1 w1 := ⟨Below.refl _ _, Nat.le_refl _⟩
  have HS : Hid (∀ w', Bw (w1.heap.size) w1 w' → w'.cell? ⟨w.heap.size, 0, none⟩ = some (.bool ba) ∧ w'.cell? ⟨w.heap.size, 1, none⟩ = some (.slice Aa na ca) ∧ w'.cell? ⟨w.heap.size, 2, none⟩ = some (.slice Ba ma da) ∧ w'.cell? ⟨w.heap.size + 1, 0, none⟩ = some (.bool bp) ∧ w'.cell? ⟨w.heap.size + 1, 1, none⟩ = some (.slice Ap np cp) ∧ w'.cell? ⟨w.heap.size + 1, 2, none⟩ = some (.slice Bp mp dp)) := by
    intro w' hb
    have e0 := hb.bq ka (by omega)
    have e1 := hb.bq kp (by omega)
    exact ⟨e0.c0, e0.c1, e0.c2, e1.c0, e1.c1, e1.c2⟩
  go_cut [7, 8] (fun s7 s8 wx => TwoV (w1.heap.size) w1 xa xp (na + 3) (ma + 4) (np + 3) (mp + 4) s7 s8 wx)
  case first =>
    clear ka kp
    go_region_held3 (fun w' => w'.cell? ⟨w.heap.size, 0, none⟩ = some (.bool ba) ∧ w'.cell? ⟨w.heap.size, 1, none⟩ = some (.slice Aa na ca) ∧ w'.cell? ⟨w.heap.size, 2, none⟩ = some (.slice Ba ma da) ∧ w'.cell? ⟨w.heap.size + 1, 0, none⟩ = some (.bool bp) ∧ w'.cell? ⟨w.heap.size + 1, 1, none⟩ = some (.slice Ap np cp) ∧ w'.cell? ⟨w.heap.size + 1, 2, none⟩ = some (.slice Bp mp dp))
      (first | with_reducible exact HS.out _ hs | (with_reducible refine HS.out _ ?_; repeat (first | with_reducible exact hs | with_reducible refine Bw.drew ?_ | with_reducible refine Bw.alloc ?_ _ | with_reducible refine Bw.set ?_ _ (by first | omega | (simp; done) | (simp; omega)) _)))
      (first
        | (go_at_call 10; (first | (with_reducible refine (scaled_z ha.drew ?_ ?_ f hf _ ?_).mono ?_) | (with_reducible refine (scaled_z (ha.below (below_alloc _ _)).drew ?_ ?_ f hf _ ?_).mono ?_) | (with_reducible refine (scaled_z ((ha.below (below_alloc _ _)).below (below_alloc _ _)).drew ?_ ?_ f hf _ ?_).mono ?_)); omega; omega; rfl; rintro e w70 ⟨be, Ae, ne, ce, Be, me, de, rfl, ze, bb⟩; (first | have hp := hp.drew.below bb | have hp := (hp.below (below_alloc _ _)).drew.below bb | have hp := ((hp.below (below_alloc _ _)).below (below_alloc _ _)).drew.below bb); (first | have hs := hs.drew.up bb | have hs := (hs.alloc _).drew.up bb | have hs := ((hs.alloc _).alloc _).drew.up bb); have z_0 := hs.2; (first | (have p0_0 := (((Rq.new _ (w1.heap.size) (by first | rfl | simp)).below (below_alloc _ _))).drew.below bb; have p0_1 := ((Rq.new _ (w1.heap.size + 1) (by first | rfl | simp))).drew.below bb) | (have p0_0 := ((Rq.new _ (w1.heap.size) (by first | rfl | simp))).drew.below bb) | skip); (try obtain ⟨p0_0_a, p0_0_b, p0_0_c⟩ := p0_0.apart); (try obtain ⟨p0_1_a, p0_1_b, p0_1_c⟩ := p0_1.apart); clear bb)
        | (go_at_call 10; (first | (with_reducible refine (scaled_z hp ?_ ?_ (f / 2) hf2 _ ?_).mono ?_) | (with_reducible refine (scaled_z (hp.below (below_alloc _ _)) ?_ ?_ (f / 2) hf2 _ ?_).mono ?_) | (with_reducible refine (scaled_z ((hp.below (below_alloc _ _)).below (below_alloc _ _)) ?_ ?_ (f / 2) hf2 _ ?_).mono ?_)); omega; omega; (first | with_reducible rfl | exact hwq | omega | (have := hwq; omega)); rintro e w71 ⟨bg, Ag, ng, cg, Bg, mg, dg, rfl, zg, bb⟩; (first | have ze := ze.below bb | have ze := (ze.below (below_alloc _ _)).below bb | have ze := ((ze.below (below_alloc _ _)).below (below_alloc _ _)).below bb); (first | have hs := hs.up bb | have hs := (hs.alloc _).up bb | have hs := ((hs.alloc _).alloc _).up bb); have z_1 := hs.2; (try (first | have p0_0 := p0_0.below bb | have p0_0 := (p0_0.below (below_alloc _ _)).below bb | have p0_0 := ((p0_0.below (below_alloc _ _)).below (below_alloc _ _)).below bb)); (try (first | have p0_1 := p0_1.below bb | have p0_1 := (p0_1.below (below_alloc _ _)).below bb | have p0_1 := ((p0_1.below (below_alloc _ _)).below (below_alloc _ _)).below bb)); (first | (have p1_0 := (((Rq.new _ (w70.heap.size) (by first | rfl | simp)).below (below_alloc _ _))).below bb; have p1_1 := ((Rq.new _ (w70.heap.size + 1) (by first | rfl | simp))).below bb) | (have p1_0 := ((Rq.new _ (w70.heap.size) (by first | rfl | simp))).below bb) | skip); (try obtain ⟨p0_0_a, p0_0_b, p0_0_c⟩ := p0_0.apart); (try obtain ⟨p0_1_a, p0_1_b, p0_1_c⟩ := p0_1.apart); (try obtain ⟨p1_0_a, p1_0_b, p1_0_c⟩ := p1_0.apart); (try obtain ⟨p1_1_a, p1_1_b, p1_1_c⟩ := p1_1.apart); (try (have p0_0_0 := p0_0.1; have p0_0_1 := p0_0.2.1; have p0_0_2 := p0_0.2.2.1; have p0_0_3 := p0_0.2.2.2.1; have p0_0_4 := p0_0.2.2.2.2.1; have p0_0_5 := p0_0.2.2.2.2.2)); (try (have p0_1_0 := p0_1.1; have p0_1_1 := p0_1.2.1; have p0_1_2 := p0_1.2.2.1; have p0_1_3 := p0_1.2.2.2.1; have p0_1_4 := p0_1.2.2.2.2.1; have p0_1_5 := p0_1.2.2.2.2.2)); (try (have p1_0_0 := p1_0.1; have p1_0_1 := p1_0.2.1; have p1_0_2 := p1_0.2.2.1; have p1_0_3 := p1_0.2.2.2.1; have p1_0_4 := p1_0.2.2.2.2.1; have p1_0_5 := p1_0.2.2.2.2.2)); (try (have p1_1_0 := p1_1.1; have p1_1_1 := p1_1.2.1; have p1_1_2 := p1_1.2.2.1; have p1_1_3 := p1_1.2.2.2.1; have p1_1_4 := p1_1.2.2.2.2.1; have p1_1_5 := p1_1.2.2.2.2.2)); clear bb))
    all_goals
      go_wp2_with fail
      go_meet
      refine ⟨_, be, Ae, ne, ce, Be, me, de, _, bg, Ag, ng, cg, Bg, mg, dg, rfl, rfl, ?_, ?_, ?_, ?_, ?_, ?_, ?_⟩
      all_goals
        repeat' (first | with_reducible assumption | (with_reducible exact Bq.new _ _ (by simp) _ _ _) | (with_reducible exact Bx.new _ _ (by simp) _ _) | (with_reducible refine Bq.later ?_ _) | (with_reducible refine Bx.later ?_ _) | (with_reducible refine Rq.written ?_ _ _ _) | (with_reducible refine Rx.written ?_ _ _) | (with_reducible refine Bq.ret3 ?_ (by omega) _ _ _) | (with_reducible refine Bq.ret ?_ (by omega) _ _) | (with_reducible refine Bx.ret3 ?_ (by omega) _ _ _) | (with_reducible refine Bx.ret ?_ (by omega) _ _) | (with_reducible refine Qz.later ?_ _) | (with_reducible refine Qz.ret3 ?_ ?_ _ _ _) | (with_reducible refine Qz.ret ?_ ?_ _ _) | (with_reducible refine Qv.later ?_ _) | (with_reducible refine Qv.ret3 ?_ ?_ _ _ _) | (with_reducible refine Qv.ret ?_ ?_ _ _) | (with_reducible refine Iz.later ?_ _) | (with_reducible refine Iz.ret3 ?_ ?_ _ _ _) | (with_reducible refine Iz.ret ?_ ?_ _ _) | (with_reducible refine Rq.ret3 ?_ (by omega) _ _ _) | (with_reducible refine Rx.ret ?_ (by omega) _ _) | (with_reducible refine Bw.alloc ?_ _) | (with_reducible refine Bw.ret3 ?_ (by omega) _ _ _) | (with_reducible refine Bw.ret ?_ (by omega) _ _) | omega)
  case rest =>
    obtain ⟨ge, be, Ae, ne, ce, Be, me, de, gg, bg, Ag, ng, cg, Bg, mg, dg, rfl, rfl, ke, kg, ze, zg, le, lg, hw⟩ := hcut
    have ka := hw.bq ka (by omega)
    have kp := hw.bq kp (by omega)
    have B0 := B0.trans (hw.1.mono B0.size)
    have ha := ha.below hw.1
    have hp := hp.below hw.1
    clear HS
    clear hw
    have ka_0 := ka.c0
    have ka_1 := ka.c1
    have ka_2 := ka.c2
    have kp_0 := kp.c0
    have kp_1 := kp.c1
    have kp_2 := kp.c2
    have ke_0 := ke.c0
    have ke_1 := ke.c1
    have ke_2 := ke.c2
    have kg_0 := kg.c0
    have kg_1 := kg.c1
    have kg_2 := kg.c2
    go_wp2_with fail
    refine (qdiv_q0 ha hp (by omega) (by omega) (by omega) (by omega) H0.out).mono ?_
    clear ka_0 ka_1 ka_2 kp_0 kp_1 kp_2 ke_0 ke_1 ke_2 kg_0 kg_1 kg_2
    rintro e w10 ⟨rfl, bb⟩
    have ha := ha.below bb
    have hp := hp.below bb
    have ka := ka.below bb
    have kp := kp.below bb
    have ke := ke.below bb
    have kg := kg.below bb
    have ze := ze.below bb
    have zg := zg.below bb
    have B0 := B0.trans (bb.mono B0.size)
    clear bb
    have ha := ha.below (below_alloc w10 (.cells #[.bool false, .slice none 0 0, .slice none 0 0] 27))
    have hp := hp.below (below_alloc w10 (.cells #[.bool false, .slice none 0 0, .slice none 0 0] 27))
    have ka := ka.below (below_alloc w10 (.cells #[.bool false, .slice none 0 0, .slice none 0 0] 27))
    have kp := kp.below (below_alloc w10 (.cells #[.bool false, .slice none 0 0, .slice none 0 0] 27))
    have ke := ke.below (below_alloc w10 (.cells #[.bool false, .slice none 0 0, .slice none 0 0] 27))
    have kg := kg.below (below_alloc w10 (.cells #[.bool false, .slice none 0 0, .slice none 0 0] 27))
    have ze := ze.below (below_alloc w10 (.cells #[.bool false, .slice none 0 0, .slice none 0 0] 27))
    have zg := zg.below (below_alloc w10 (.cells #[.bool false, .slice none 0 0, .slice none 0 0] 27))
    have k1 := Bq.new w10 (w10.heap.size) (by simp) (.bool false) (.slice none 0 0) (.slice none 0 0)
    have B0 := B0.trans ((below_alloc w10 (.cells #[.bool false, .slice none 0 0, .slice none 0 0] 27)).mono B0.size)
    have ka_0 := ka.c0
    have ka_1 := ka.c1
    have ka_2 := ka.c2
    have kp_0 := kp.c0
    have kp_1 := kp.c1
    have kp_2 := kp.c2
    have ke_0 := ke.c0
    have ke_1 := ke.c1
    have ke_2 := ke.c2
    have kg_0 := kg.c0
    have kg_1 := kg.c1
    have kg_2 := kg.c2
    have k1_0 := k1.c0
    have k1_1 := k1.c1
    have k1_2 := k1.c2
    go_wp2_with fail
    refine (qdiv_q0 ze zg (by omega) (by omega) (by omega) (by omega) H0.out).mono ?_
    clear ka_0 ka_1 ka_2 kp_0 kp_1 kp_2 ke_0 ke_1 ke_2 kg_0 kg_1 kg_2 k1_0 k1_1 k1_2
    rintro e w11 ⟨rfl, bb⟩
    have ha := ha.below bb
    have hp := hp.below bb
    have ka := ka.below bb
    have kp := kp.below bb
    have ke := ke.below bb
    have kg := kg.below bb
    have ze := ze.below bb
    have zg := zg.below bb
    have k1 := k1.below bb
    have B0 := B0.trans (bb.mono B0.size)
    clear bb
    have ha := ha.below (below_alloc w11 (.cells #[.bool false, .slice none 0 0, .slice none 0 0] 27))
    have hp := hp.below (below_alloc w11 (.cells #[.bool false, .slice none 0 0, .slice none 0 0] 27))
    have ka := ka.below (below_alloc w11 (.cells #[.bool false, .slice none 0 0, .slice none 0 0] 27))
    have kp := kp.below (below_alloc w11 (.cells #[.bool false, .slice none 0 0, .slice none 0 0] 27))
    have ke := ke.below (below_alloc w11 (.cells #[.bool false, .slice none 0 0, .slice none 0 0] 27))
    have kg := kg.below (below_alloc w11 (.cells #[.bool false, .slice none 0 0, .slice none 0 0] 27))
    have ze := ze.below (below_alloc w11 (.cells #[.bool false, .slice none 0 0, .slice none 0 0] 27))
    have zg := zg.below (below_alloc w11 (.cells #[.bool false, .slice none 0 0, .slice none 0 0] 27))
    have k1 := k1.below (below_alloc w11 (.cells #[.bool false, .slice none 0 0, .slice none 0 0] 27))
    have k2 := Bq.new w11 (w11.heap.size) (by simp) (.bool false) (.slice none 0 0) (.slice none 0 0)
    have B0 := B0.trans ((below_alloc w11 (.cells #[.bool false, .slice none 0 0, .slice none 0 0] 27)).mono B0.size)
    go_wp2_with fail
    have ha := ha.drew
    have hp := hp.drew
    have ka := ka.drew
    have kp := kp.drew
    have ke := ke.drew
    have kg := kg.drew
    have ze := ze.drew
    have zg := zg.drew
    have k1 := k1.drew
    have k2 := k2.drew
    have B0 := b_drew B0
    go_region_held3 (fun w' => w'.cell? ⟨w.heap.size, 0, none⟩ = some (.bool ba) ∧ w'.cell? ⟨w.heap.size, 1, none⟩ = some (.slice Aa na ca) ∧ w'.cell? ⟨w.heap.size, 2, none⟩ = some (.slice Ba ma da) ∧ w'.cell? ⟨w.heap.size + 1, 0, none⟩ = some (.bool bp) ∧ w'.cell? ⟨w.heap.size + 1, 1, none⟩ = some (.slice Ap np cp) ∧ w'.cell? ⟨w.heap.size + 1, 2, none⟩ = some (.slice Bp mp dp) ∧ w'.cell? ⟨ge, 0, none⟩ = some (.bool be) ∧ w'.cell? ⟨ge, 1, none⟩ = some (.slice Ae ne ce) ∧ w'.cell? ⟨ge, 2, none⟩ = some (.slice Be me de) ∧ w'.cell? ⟨gg, 0, none⟩ = some (.bool bg) ∧ w'.cell? ⟨gg, 1, none⟩ = some (.slice Ag ng cg) ∧ w'.cell? ⟨gg, 2, none⟩ = some (.slice Bg mg dg) ∧ w'.cell? ⟨w10.heap.size, 0, none⟩ = some (.bool false) ∧ w'.cell? ⟨w10.heap.size, 1, none⟩ = some (.slice none 0 0) ∧ w'.cell? ⟨w10.heap.size, 2, none⟩ = some (.slice none 0 0) ∧ w'.cell? ⟨w11.heap.size, 0, none⟩ = some (.bool false) ∧ w'.cell? ⟨w11.heap.size, 1, none⟩ = some (.slice none 0 0) ∧ w'.cell? ⟨w11.heap.size, 2, none⟩ = some (.slice none 0 0)) (first | with_reducible exact ⟨ka.c0, ka.c1, ka.c2, kp.c0, kp.c1, kp.c2, ke.c0, ke.c1, ke.c2, kg.c0, kg.c1, kg.c2, k1.c0, k1.c1, k1.c2, k2.c0, k2.c1, k2.c2⟩)
      (first
        | (go_at_call 12; (with_reducible refine (rsame_0 _).mono ?_); rintro e w21 ⟨rfl, bb⟩; have ha := ha.below bb; have hp := hp.below bb; have ka := ka.below bb; have kp := kp.below bb; have ke := ke.below bb; have kg := kg.below bb; have ze := ze.below bb; have zg := zg.below bb; have k1 := k1.below bb; have k2 := k2.below bb; have B0 := B0.trans (bb.mono B0.size); clear bb)
        | (go_at_call 13; (with_reducible refine (qcmp_q ha ze ?_ ?_ ?_ ?_ _ HSELF.out).mono ?_); omega; omega; omega; omega; rintro e w22 ⟨rfl, bb⟩; have ha := ha.below bb; have hp := hp.below bb; have ka := ka.below bb; have kp := kp.below bb; have ke := ke.below bb; have kg := kg.below bb; have ze := ze.below bb; have zg := zg.below bb; have k1 := k1.below bb; have k2 := k2.below bb; have B0 := B0.trans (bb.mono B0.size); clear bb)
        | (go_at_call 13; (with_reducible refine (qcmp_q ha hp ?_ ?_ ?_ ?_ _ HO.out).mono ?_); omega; omega; omega; omega; rintro e w23 ⟨rfl, bb⟩; have ha := ha.below bb; have hp := hp.below bb; have ka := ka.below bb; have kp := kp.below bb; have ke := ke.below bb; have kg := kg.below bb; have ze := ze.below bb; have zg := zg.below bb; have k1 := k1.below bb; have k2 := k2.below bb; have B0 := B0.trans (bb.mono B0.size); clear bb)
        | (go_at_call 13; (with_reducible refine (qcmp_q ze zg ?_ ?_ ?_ ?_ _ HO.out).mono ?_); omega; omega; omega; omega; rintro e w24 ⟨rfl, bb⟩; have ha := ha.below bb; have hp := hp.below bb; have ka := ka.below bb; have kp := kp.below bb; have ke := ke.below bb; have kg := kg.below bb; have ze := ze.below bb; have zg := zg.below bb; have k1 := k1.below bb; have k2 := k2.below bb; have B0 := B0.trans (bb.mono B0.size); clear bb)
        | (go_at_call 14; (with_reducible refine (qtext_q ha ?_ ?_ (HT.out.below B0) t HX.out).mono ?_); omega; omega; rintro e w25 ⟨rfl, bb⟩; have ha := ha.below bb; have hp := hp.below bb; have ka := ka.below bb; have kp := kp.below bb; have ke := ke.below bb; have kg := kg.below bb; have ze := ze.below bb; have zg := zg.below bb; have k1 := k1.below bb; have k2 := k2.below bb; have B0 := B0.trans (bb.mono B0.size); clear bb)
        | (go_at_call 14; (with_reducible refine (qtext_q ze ?_ ?_ (HT.out.below B0) t HX.out).mono ?_); omega; omega; rintro e w26 ⟨rfl, bb⟩; have ha := ha.below bb; have hp := hp.below bb; have ka := ka.below bb; have kp := kp.below bb; have ke := ke.below bb; have kg := kg.below bb; have ze := ze.below bb; have zg := zg.below bb; have k1 := k1.below bb; have k2 := k2.below bb; have B0 := B0.trans (bb.mono B0.size); clear bb))
    go_wp2_with fail
    have ha := ha.drew
    have hp := hp.drew
    have ka := ka.drew
    have kp := kp.drew
    have ke := ke.drew
    have kg := kg.drew
    have ze := ze.drew
    have zg := zg.drew
    have B0 := b_drew B0
    go_region_held3 (fun w' => w'.cell? ⟨w.heap.size, 0, none⟩ = some (.bool ba) ∧ w'.cell? ⟨w.heap.size, 1, none⟩ = some (.slice Aa na ca) ∧ w'.cell? ⟨w.heap.size, 2, none⟩ = some (.slice Ba ma da) ∧ w'.cell? ⟨w.heap.size + 1, 0, none⟩ = some (.bool bp) ∧ w'.cell? ⟨w.heap.size + 1, 1, none⟩ = some (.slice Ap np cp) ∧ w'.cell? ⟨w.heap.size + 1, 2, none⟩ = some (.slice Bp mp dp) ∧ w'.cell? ⟨ge, 0, none⟩ = some (.bool be) ∧ w'.cell? ⟨ge, 1, none⟩ = some (.slice Ae ne ce) ∧ w'.cell? ⟨ge, 2, none⟩ = some (.slice Be me de) ∧ w'.cell? ⟨gg, 0, none⟩ = some (.bool bg) ∧ w'.cell? ⟨gg, 1, none⟩ = some (.slice Ag ng cg) ∧ w'.cell? ⟨gg, 2, none⟩ = some (.slice Bg mg dg)) (first | with_reducible exact ⟨ka.c0, ka.c1, ka.c2, kp.c0, kp.c1, kp.c2, ke.c0, ke.c1, ke.c2, kg.c0, kg.c1, kg.c2⟩)
      (first
        | (go_at_call 15; (with_reducible refine (qnorm_q ha ?_ ?_).mono ?_); omega; omega; rintro e w31 ⟨b11, A11, n11, c11, B11, m11, d11, rfl, z11, bb⟩; have ha := ha.below bb; have hp := hp.below bb; have ka := ka.below bb; have kp := kp.below bb; have ke := ke.below bb; have kg := kg.below bb; have ze := ze.below bb; have zg := zg.below bb; have B0 := B0.trans (bb.mono B0.size); clear bb)
        | (go_at_call 15; (with_reducible refine (qnorm_q ze ?_ ?_).mono ?_); omega; omega; rintro e w32 ⟨b12, A12, n12, c12, B12, m12, d12, rfl, z12, bb⟩; have ha := ha.below bb; have hp := hp.below bb; have ka := ka.below bb; have kp := kp.below bb; have ke := ke.below bb; have kg := kg.below bb; have ze := ze.below bb; have zg := zg.below bb; have z11 := z11.below bb; have B0 := B0.trans (bb.mono B0.size); clear bb)
        | (go_at_call 12; (with_reducible refine (rsame_q z11 z12 (rfl)).mono ?_); rintro e w33 ⟨rfl, bb⟩; have ha := ha.below bb; have hp := hp.below bb; have ka := ka.below bb; have kp := kp.below bb; have ke := ke.below bb; have kg := kg.below bb; have ze := ze.below bb; have zg := zg.below bb; have z11 := z11.below bb; have z12 := z12.below bb; have B0 := B0.trans (bb.mono B0.size); clear bb)
        | (go_at_call 16; (with_reducible refine (qadd_q ha hp ?_ ?_ ?_ ?_).mono ?_); omega; omega; omega; omega; rintro e w34 ⟨b21, A21, n21, c21, B21, m21, d21, rfl, z21, bb⟩; have ha := ha.below bb; have hp := hp.below bb; have ka := ka.below bb; have kp := kp.below bb; have ke := ke.below bb; have kg := kg.below bb; have ze := ze.below bb; have zg := zg.below bb; have B0 := B0.trans (bb.mono B0.size); clear bb)
        | (go_at_call 16; (with_reducible refine (qadd_q ze zg ?_ ?_ ?_ ?_).mono ?_); omega; omega; omega; omega; rintro e w35 ⟨b22, A22, n22, c22, B22, m22, d22, rfl, z22, bb⟩; have ha := ha.below bb; have hp := hp.below bb; have ka := ka.below bb; have kp := kp.below bb; have ke := ke.below bb; have kg := kg.below bb; have ze := ze.below bb; have zg := zg.below bb; have z21 := z21.below bb; have B0 := B0.trans (bb.mono B0.size); clear bb)
        | (go_at_call 12; (with_reducible refine (rsame_q z21 z22 (rfl)).mono ?_); rintro e w36 ⟨rfl, bb⟩; have ha := ha.below bb; have hp := hp.below bb; have ka := ka.below bb; have kp := kp.below bb; have ke := ke.below bb; have kg := kg.below bb; have ze := ze.below bb; have zg := zg.below bb; have z21 := z21.below bb; have z22 := z22.below bb; have B0 := B0.trans (bb.mono B0.size); clear bb)
        | (go_at_call 17; (with_reducible refine (qmul_q ha hp ?_ ?_ ?_ ?_).mono ?_); omega; omega; omega; omega; rintro e w37 ⟨b31, A31, n31, c31, B31, m31, d31, rfl, z31, bb⟩; have ha := ha.below bb; have hp := hp.below bb; have ka := ka.below bb; have kp := kp.below bb; have ke := ke.below bb; have kg := kg.below bb; have ze := ze.below bb; have zg := zg.below bb; have B0 := B0.trans (bb.mono B0.size); clear bb)
        | (go_at_call 17; (with_reducible refine (qmul_q ze zg ?_ ?_ ?_ ?_).mono ?_); omega; omega; omega; omega; rintro e w38 ⟨b32, A32, n32, c32, B32, m32, d32, rfl, z32, bb⟩; have ha := ha.below bb; have hp := hp.below bb; have ka := ka.below bb; have kp := kp.below bb; have ke := ke.below bb; have kg := kg.below bb; have ze := ze.below bb; have zg := zg.below bb; have z31 := z31.below bb; have B0 := B0.trans (bb.mono B0.size); clear bb)
        | (go_at_call 12; (with_reducible refine (rsame_q z31 z32 (rfl)).mono ?_); rintro e w39 ⟨rfl, bb⟩; have ha := ha.below bb; have hp := hp.below bb; have ka := ka.below bb; have kp := kp.below bb; have ke := ke.below bb; have kg := kg.below bb; have ze := ze.below bb; have zg := zg.below bb; have z31 := z31.below bb; have z32 := z32.below bb; have B0 := B0.trans (bb.mono B0.size); clear bb)
        | (go_at_call 19; (with_reducible refine (qround_q ha ?_ ?_).mono ?_); omega; omega; rintro e w40 ⟨v41, rfl, z41, bb⟩; have ha := ha.below bb; have hp := hp.below bb; have ka := ka.below bb; have kp := kp.below bb; have ke := ke.below bb; have kg := kg.below bb; have ze := ze.below bb; have zg := zg.below bb; have B0 := B0.trans (bb.mono B0.size); clear bb)
        | (go_at_call 19; (with_reducible refine (qround_q ze ?_ ?_).mono ?_); omega; omega; rintro e w41 ⟨v42, rfl, z42, bb⟩; have ha := ha.below bb; have hp := hp.below bb; have ka := ka.below bb; have kp := kp.below bb; have ke := ke.below bb; have kg := kg.below bb; have ze := ze.below bb; have zg := zg.below bb; have z41 := z41.below bb; have B0 := B0.trans (bb.mono B0.size); clear bb)
        | (go_at_call 18; (with_reducible refine (rsameint_i z41 z42 (rfl)).mono ?_); rintro e w42 ⟨rfl, bb⟩; have ha := ha.below bb; have hp := hp.below bb; have ka := ka.below bb; have kp := kp.below bb; have ke := ke.below bb; have kg := kg.below bb; have ze := ze.below bb; have zg := zg.below bb; have z41 := z41.below bb; have z42 := z42.below bb; have B0 := B0.trans (bb.mono B0.size); clear bb)
        | (go_at_call 20; (with_reducible refine (qfloor_q ha ?_ ?_).mono ?_); omega; omega; rintro e w43 ⟨v51, rfl, z51, bb⟩; have ha := ha.below bb; have hp := hp.below bb; have ka := ka.below bb; have kp := kp.below bb; have ke := ke.below bb; have kg := kg.below bb; have ze := ze.below bb; have zg := zg.below bb; have B0 := B0.trans (bb.mono B0.size); clear bb)
        | (go_at_call 20; (with_reducible refine (qfloor_q ze ?_ ?_).mono ?_); omega; omega; rintro e w44 ⟨v52, rfl, z52, bb⟩; have ha := ha.below bb; have hp := hp.below bb; have ka := ka.below bb; have kp := kp.below bb; have ke := ke.below bb; have kg := kg.below bb; have ze := ze.below bb; have zg := zg.below bb; have z51 := z51.below bb; have B0 := B0.trans (bb.mono B0.size); clear bb)
        | (go_at_call 18; (with_reducible refine (rsameint_i z51 z52 (rfl)).mono ?_); rintro e w45 ⟨rfl, bb⟩; have ha := ha.below bb; have hp := hp.below bb; have ka := ka.below bb; have kp := kp.below bb; have ke := ke.below bb; have kg := kg.below bb; have ze := ze.below bb; have zg := zg.below bb; have z51 := z51.below bb; have z52 := z52.below bb; have B0 := B0.trans (bb.mono B0.size); clear bb)
        | (go_at_call 9; (with_reducible refine (example_walk _ (HT.out.below B0)).mono ?_); rintro e w46 ⟨rfl, bb⟩; have ha := ha.below bb; have hp := hp.below bb; have ka := ka.below bb; have kp := kp.below bb; have ke := ke.below bb; have kg := kg.below bb; have ze := ze.below bb; have zg := zg.below bb; have B0 := B0.trans (bb.mono B0.size); clear bb))
    go_wp2
    go_ret
    exact ⟨rfl, B0⟩
set_option maxRecDepth 20000 in
set_option maxHeartbeats 8000000 in
theorem ratioForms_pos {ba : Bool} {Aa : Option Addr} {na ca : Nat} {Ba : Option Addr} {ma da : Nat} {bp : Bool} {Ap : Option Addr} {np cp : Nat} {Bp : Option Addr} {mp dp : Nat} {xa : Rat} {xp : Rat} (f : Nat) (w : World) (ha : Qv w (.agg #[.bool ba, .slice Aa na ca, .slice Ba ma da]) xa na ma) (hp : Qv w (.agg #[.bool bp, .slice Ap np cp, .slice Bp mp dp]) xp np mp) (h1 : na ≤ 10 ∧ ma ≤ 10) (h2 : np ≤ 10 ∧ mp ≤ 10) (hf : f < 4294967296) (h0 : xp ≠ 0) (ht : Tab w) :
    Calls Tryd.prog 3 #[.agg #[.bool ba, .slice Aa na ca, .slice Ba ma da], .agg #[.bool bp, .slice Ap np cp, .slice Bp mp dp], .int .u32 (f : Int)] w (BoolEnd true w) := by
  have HT := Lib.hid ht
  clear ht
  have H0 := Lib.hid h0
  clear h0
  obtain ⟨o, ho⟩ : ∃ o, RatN.cmpQ xa xp = o := ⟨_, rfl⟩
  have hself := RatN.cmpQ_self xa
  obtain ⟨t, hx⟩ : ∃ t : ByteArray, t.data.toList = RatN.qdec xa := ⟨⟨(RatN.qdec xa).toArray⟩, rfl⟩
  have HO := Lib.hid ho
  have HSELF := Lib.hid hself
  have HX := Lib.hid hx
  clear ho hself hx
  have hf2 : f / 2 < 4294967296 := by omega
  have hwq : IntKind.u32.wrap ((f : Int) / 2) = ((f / 2 : Nat) : Int) := by rw [IntKind.wrap_u32]; omega
  have B0 := below_a2 w (.cells #[.bool ba, .slice Aa na ca, .slice Ba ma da] 27) (.cells #[.bool bp, .slice Ap np cp, .slice Bp mp dp] 27)
  have ha := ha.below B0
  have hp := hp.below B0
  have ka := ((Bq.new w (w.heap.size) (by simp) (.bool ba) (.slice Aa na ca) (.slice Ba ma da)).below (below_alloc (w.alloc (.cells #[.bool ba, .slice Aa na ca, .slice Ba ma da] 27)) (.cells #[.bool bp, .slice Ap np cp, .slice Bp mp dp] 27)))
  have kp := (Bq.new (w.alloc (.cells #[.bool ba, .slice Aa na ca, .slice Ba ma da] 27)) (w.heap.size + 1) (by simp) (.bool bp) (.slice Ap np cp) (.slice Bp mp dp))
  go_enter Tryd.func3, Tryd.ntmps3
  have ka_0 := ka.c0
  have ka_1 := ka.c1
  have ka_2 := ka.c2
  have kp_0 := kp.c0
  have kp_1 := kp.c1
  have kp_2 := kp.c2
  go_wp2_with fail
  refine (lawlight _ h1 h2).mono ?_
  clear ka_0 ka_1 ka_2 kp_0 kp_1 kp_2
  rintro e w1 ⟨rfl, bb⟩
  have ha := ha.below bb
  have hp := hp.below bb
  have ka := ka.below bb
  have kp := kp.below bb
  have B0 := B0.trans (bb.mono B0.size)
  clear bb
  go_upto_region 3 with fail
  have lka := ka.lt
  have lkp := kp.lt
  have hs : Bw (w1.heap.size) w1 w1 := ⟨Below.refl _ _, Nat.le_refl _⟩
  have HS : Hid (∀ w', Bw (w1.heap.size) w1 w' → w'.cell? ⟨w.heap.size, 0, none⟩ = some (.bool ba) ∧ w'.cell? ⟨w.heap.size, 1, none⟩ = some (.slice Aa na ca) ∧ w'.cell? ⟨w.heap.size, 2, none⟩ = some (.slice Ba ma da) ∧ w'.cell? ⟨w.heap.size + 1, 0, none⟩ = some (.bool bp) ∧ w'.cell? ⟨w.heap.size + 1, 1, none⟩ = some (.slice Ap np cp) ∧ w'.cell? ⟨w.heap.size + 1, 2, none⟩ = some (.slice Bp mp dp)) := by
    intro w' hb
    have e0 := hb.bq ka (by omega)
    have e1 := hb.bq kp (by omega)
    exact ⟨e0.c0, e0.c1, e0.c2, e1.c0, e1.c1, e1.c2⟩
  go_cut [7, 8] (fun s7 s8 wx => TwoV (w1.heap.size) w1 xa xp (na + 3) (ma + 4) (np + 3) (mp + 4) s7 s8 wx)
  case first =>
    clear ka kp
    go_region_held3 (fun w' => w'.cell? ⟨w.heap.size, 0, none⟩ = some (.bool ba) ∧ w'.cell? ⟨w.heap.size, 1, none⟩ = some (.slice Aa na ca) ∧ w'.cell? ⟨w.heap.size, 2, none⟩ = some (.slice Ba ma da) ∧ w'.cell? ⟨w.heap.size + 1, 0, none⟩ = some (.bool bp) ∧ w'.cell? ⟨w.heap.size + 1, 1, none⟩ = some (.slice Ap np cp) ∧ w'.cell? ⟨w.heap.size + 1, 2, none⟩ = some (.slice Bp mp dp))
      (first | with_reducible exact HS.out _ hs | (with_reducible refine HS.out _ ?_; repeat (first | with_reducible exact hs | with_reducible refine Bw.drew ?_ | with_reducible refine Bw.alloc ?_ _ | with_reducible refine Bw.set ?_ _ (by first | omega | (simp; done) | (simp; omega)) _)))
      (first
        | (go_at_call 10; (first | (with_reducible refine (scaled_z ha.drew ?_ ?_ f hf _ ?_).mono ?_) | (with_reducible refine (scaled_z (ha.below (below_alloc _ _)).drew ?_ ?_ f hf _ ?_).mono ?_) | (with_reducible refine (scaled_z ((ha.below (below_alloc _ _)).below (below_alloc _ _)).drew ?_ ?_ f hf _ ?_).mono ?_)); omega; omega; rfl; rintro e w70 ⟨be, Ae, ne, ce, Be, me, de, rfl, ze, bb⟩; (first | have hp := hp.drew.below bb | have hp := (hp.below (below_alloc _ _)).drew.below bb | have hp := ((hp.below (below_alloc _ _)).below (below_alloc _ _)).drew.below bb); (first | have hs := hs.drew.up bb | have hs := (hs.alloc _).drew.up bb | have hs := ((hs.alloc _).alloc _).drew.up bb); have z_0 := hs.2; (first | (have p0_0 := (((Rq.new _ (w1.heap.size) (by first | rfl | simp)).below (below_alloc _ _))).drew.below bb; have p0_1 := ((Rq.new _ (w1.heap.size + 1) (by first | rfl | simp))).drew.below bb) | (have p0_0 := ((Rq.new _ (w1.heap.size) (by first | rfl | simp))).drew.below bb) | skip); (try obtain ⟨p0_0_a, p0_0_b, p0_0_c⟩ := p0_0.apart); (try obtain ⟨p0_1_a, p0_1_b, p0_1_c⟩ := p0_1.apart); clear bb)
        | (go_at_call 10; (first | (with_reducible refine (scaled_z hp ?_ ?_ (f / 2) hf2 _ ?_).mono ?_) | (with_reducible refine (scaled_z (hp.below (below_alloc _ _)) ?_ ?_ (f / 2) hf2 _ ?_).mono ?_) | (with_reducible refine (scaled_z ((hp.below (below_alloc _ _)).below (below_alloc _ _)) ?_ ?_ (f / 2) hf2 _ ?_).mono ?_)); omega; omega; (first | with_reducible rfl | exact hwq | omega | (have := hwq; omega)); rintro e w71 ⟨bg, Ag, ng, cg, Bg, mg, dg, rfl, zg, bb⟩; (first | have ze := ze.below bb | have ze := (ze.below (below_alloc _ _)).below bb | have ze := ((ze.below (below_alloc _ _)).below (below_alloc _ _)).below bb); (first | have hs := hs.up bb | have hs := (hs.alloc _).up bb | have hs := ((hs.alloc _).alloc _).up bb); have z_1 := hs.2; (try (first | have p0_0 := p0_0.below bb | have p0_0 := (p0_0.below (below_alloc _ _)).below bb | have p0_0 := ((p0_0.below (below_alloc _ _)).below (below_alloc _ _)).below bb)); (try (first | have p0_1 := p0_1.below bb | have p0_1 := (p0_1.below (below_alloc _ _)).below bb | have p0_1 := ((p0_1.below (below_alloc _ _)).below (below_alloc _ _)).below bb)); (first | (have p1_0 := (((Rq.new _ (w70.heap.size) (by first | rfl | simp)).below (below_alloc _ _))).below bb; have p1_1 := ((Rq.new _ (w70.heap.size + 1) (by first | rfl | simp))).below bb) | (have p1_0 := ((Rq.new _ (w70.heap.size) (by first | rfl | simp))).below bb) | skip); (try obtain ⟨p0_0_a, p0_0_b, p0_0_c⟩ := p0_0.apart); (try obtain ⟨p0_1_a, p0_1_b, p0_1_c⟩ := p0_1.apart); (try obtain ⟨p1_0_a, p1_0_b, p1_0_c⟩ := p1_0.apart); (try obtain ⟨p1_1_a, p1_1_b, p1_1_c⟩ := p1_1.apart); (try (have p0_0_0 := p0_0.1; have p0_0_1 := p0_0.2.1; have p0_0_2 := p0_0.2.2.1; have p0_0_3 := p0_0.2.2.2.1; have p0_0_4 := p0_0.2.2.2.2.1; have p0_0_5 := p0_0.2.2.2.2.2)); (try (have p0_1_0 := p0_1.1; have p0_1_1 := p0_1.2.1; have p0_1_2 := p0_1.2.2.1; have p0_1_3 := p0_1.2.2.2.1; have p0_1_4 := p0_1.2.2.2.2.1; have p0_1_5 := p0_1.2.2.2.2.2)); (try (have p1_0_0 := p1_0.1; have p1_0_1 := p1_0.2.1; have p1_0_2 := p1_0.2.2.1; have p1_0_3 := p1_0.2.2.2.1; have p1_0_4 := p1_0.2.2.2.2.1; have p1_0_5 := p1_0.2.2.2.2.2)); (try (have p1_1_0 := p1_1.1; have p1_1_1 := p1_1.2.1; have p1_1_2 := p1_1.2.2.1; have p1_1_3 := p1_1.2.2.2.1; have p1_1_4 := p1_1.2.2.2.2.1; have p1_1_5 := p1_1.2.2.2.2.2)); clear bb))
    all_goals
      go_wp2_with fail
      go_meet
      refine ⟨_, be, Ae, ne, ce, Be, me, de, _, bg, Ag, ng, cg, Bg, mg, dg, rfl, rfl, ?_, ?_, ?_, ?_, ?_, ?_, ?_⟩
      all_goals
        repeat' (first | with_reducible assumption | (with_reducible exact Bq.new _ _ (by simp) _ _ _) | (with_reducible exact Bx.new _ _ (by simp) _ _) | (with_reducible refine Bq.later ?_ _) | (with_reducible refine Bx.later ?_ _) | (with_reducible refine Rq.written ?_ _ _ _) | (with_reducible refine Rx.written ?_ _ _) | (with_reducible refine Bq.ret3 ?_ (by omega) _ _ _) | (with_reducible refine Bq.ret ?_ (by omega) _ _) | (with_reducible refine Bx.ret3 ?_ (by omega) _ _ _) | (with_reducible refine Bx.ret ?_ (by omega) _ _) | (with_reducible refine Qz.later ?_ _) | (with_reducible refine Qz.ret3 ?_ ?_ _ _ _) | (with_reducible refine Qz.ret ?_ ?_ _ _) | (with_reducible refine Qv.later ?_ _) | (with_reducible refine Qv.ret3 ?_ ?_ _ _ _) | (with_reducible refine Qv.ret ?_ ?_ _ _) | (with_reducible refine Iz.later ?_ _) | (with_reducible refine Iz.ret3 ?_ ?_ _ _ _) | (with_reducible refine Iz.ret ?_ ?_ _ _) | (with_reducible refine Rq.ret3 ?_ (by omega) _ _ _) | (with_reducible refine Rx.ret ?_ (by omega) _ _) | (with_reducible refine Bw.alloc ?_ _) | (with_reducible refine Bw.ret3 ?_ (by omega) _ _ _) | (with_reducible refine Bw.ret ?_ (by omega) _ _) | omega)
  case rest =>
    obtain ⟨ge, be, Ae, ne, ce, Be, me, de, gg, bg, Ag, ng, cg, Bg, mg, dg, rfl, rfl, ke, kg, ze, zg, le, lg, hw⟩ := hcut
    have ka := hw.bq ka (by omega)
    have kp := hw.bq kp (by omega)
    have B0 := B0.trans (hw.1.mono B0.size)
    have ha := ha.below hw.1
    have hp := hp.below hw.1
    clear HS
    clear hw
    have ka_0 := ka.c0
    have ka_1 := ka.c1
    have ka_2 := ka.c2
    have kp_0 := kp.c0
    have kp_1 := kp.c1
    have kp_2 := kp.c2
    have ke_0 := ke.c0
    have ke_1 := ke.c1
    have ke_2 := ke.c2
    have kg_0 := kg.c0
    have kg_1 := kg.c1
    have kg_2 := kg.c2
    go_wp2_with fail
    refine (qdiv_q ha hp (by omega) (by omega) (by omega) (by omega) H0.out).mono ?_
    clear ka_0 ka_1 ka_2 kp_0 kp_1 kp_2 ke_0 ke_1 ke_2 kg_0 kg_1 kg_2
    rintro e w10 ⟨b1, A1, n1, c1, B1, m1, d1, rfl, z1, bb⟩
    have ha := ha.below bb
    have hp := hp.below bb
    have ka := ka.below bb
    have kp := kp.below bb
    have ke := ke.below bb
    have kg := kg.below bb
    have ze := ze.below bb
    have zg := zg.below bb
    have B0 := B0.trans (bb.mono B0.size)
    clear bb
    have ha := ha.below (below_alloc w10 (.cells #[.bool b1, .slice A1 n1 c1, .slice B1 m1 d1] 27))
    have hp := hp.below (below_alloc w10 (.cells #[.bool b1, .slice A1 n1 c1, .slice B1 m1 d1] 27))
    have ka := ka.below (below_alloc w10 (.cells #[.bool b1, .slice A1 n1 c1, .slice B1 m1 d1] 27))
    have kp := kp.below (below_alloc w10 (.cells #[.bool b1, .slice A1 n1 c1, .slice B1 m1 d1] 27))
    have ke := ke.below (below_alloc w10 (.cells #[.bool b1, .slice A1 n1 c1, .slice B1 m1 d1] 27))
    have kg := kg.below (below_alloc w10 (.cells #[.bool b1, .slice A1 n1 c1, .slice B1 m1 d1] 27))
    have ze := ze.below (below_alloc w10 (.cells #[.bool b1, .slice A1 n1 c1, .slice B1 m1 d1] 27))
    have zg := zg.below (below_alloc w10 (.cells #[.bool b1, .slice A1 n1 c1, .slice B1 m1 d1] 27))
    have z1 := z1.below (below_alloc w10 (.cells #[.bool b1, .slice A1 n1 c1, .slice B1 m1 d1] 27))
    have k1 := Bq.new w10 (w10.heap.size) (by simp) (.bool b1) (.slice A1 n1 c1) (.slice B1 m1 d1)
    have B0 := B0.trans ((below_alloc w10 (.cells #[.bool b1, .slice A1 n1 c1, .slice B1 m1 d1] 27)).mono B0.size)
    have ka_0 := ka.c0
    have ka_1 := ka.c1
    have ka_2 := ka.c2
    have kp_0 := kp.c0
    have kp_1 := kp.c1
    have kp_2 := kp.c2
    have ke_0 := ke.c0
    have ke_1 := ke.c1
    have ke_2 := ke.c2
    have kg_0 := kg.c0
    have kg_1 := kg.c1
    have kg_2 := kg.c2
    have k1_0 := k1.c0
    have k1_1 := k1.c1
    have k1_2 := k1.c2
    go_wp2_with fail
    refine (qdiv_q ze zg (by omega) (by omega) (by omega) (by omega) H0.out).mono ?_
    clear ka_0 ka_1 ka_2 kp_0 kp_1 kp_2 ke_0 ke_1 ke_2 kg_0 kg_1 kg_2 k1_0 k1_1 k1_2
    rintro e w11 ⟨b2, A2, n2, c2, B2, m2, d2, rfl, z2, bb⟩
    have ha := ha.below bb
    have hp := hp.below bb
    have ka := ka.below bb
    have kp := kp.below bb
    have ke := ke.below bb
    have kg := kg.below bb
    have ze := ze.below bb
    have zg := zg.below bb
    have z1 := z1.below bb
    have k1 := k1.below bb
    have B0 := B0.trans (bb.mono B0.size)
    clear bb
    have ha := ha.below (below_alloc w11 (.cells #[.bool b2, .slice A2 n2 c2, .slice B2 m2 d2] 27))
    have hp := hp.below (below_alloc w11 (.cells #[.bool b2, .slice A2 n2 c2, .slice B2 m2 d2] 27))
    have ka := ka.below (below_alloc w11 (.cells #[.bool b2, .slice A2 n2 c2, .slice B2 m2 d2] 27))
    have kp := kp.below (below_alloc w11 (.cells #[.bool b2, .slice A2 n2 c2, .slice B2 m2 d2] 27))
    have ke := ke.below (below_alloc w11 (.cells #[.bool b2, .slice A2 n2 c2, .slice B2 m2 d2] 27))
    have kg := kg.below (below_alloc w11 (.cells #[.bool b2, .slice A2 n2 c2, .slice B2 m2 d2] 27))
    have ze := ze.below (below_alloc w11 (.cells #[.bool b2, .slice A2 n2 c2, .slice B2 m2 d2] 27))
    have zg := zg.below (below_alloc w11 (.cells #[.bool b2, .slice A2 n2 c2, .slice B2 m2 d2] 27))
    have z1 := z1.below (below_alloc w11 (.cells #[.bool b2, .slice A2 n2 c2, .slice B2 m2 d2] 27))
    have k1 := k1.below (below_alloc w11 (.cells #[.bool b2, .slice A2 n2 c2, .slice B2 m2 d2] 27))
    have z2 := z2.below (below_alloc w11 (.cells #[.bool b2, .slice A2 n2 c2, .slice B2 m2 d2] 27))
    have k2 := Bq.new w11 (w11.heap.size) (by simp) (.bool b2) (.slice A2 n2 c2) (.slice B2 m2 d2)
    have B0 := B0.trans ((below_alloc w11 (.cells #[.bool b2, .slice A2 n2 c2, .slice B2 m2 d2] 27)).mono B0.size)
    go_wp2_with fail
    have ha := ha.drew
    have hp := hp.drew
    have ka := ka.drew
    have kp := kp.drew
    have ke := ke.drew
    have kg := kg.drew
    have ze := ze.drew
    have zg := zg.drew
    have z1 := z1.drew
    have k1 := k1.drew
    have z2 := z2.drew
    have k2 := k2.drew
    have B0 := b_drew B0
    go_region_held3 (fun w' => w'.cell? ⟨w.heap.size, 0, none⟩ = some (.bool ba) ∧ w'.cell? ⟨w.heap.size, 1, none⟩ = some (.slice Aa na ca) ∧ w'.cell? ⟨w.heap.size, 2, none⟩ = some (.slice Ba ma da) ∧ w'.cell? ⟨w.heap.size + 1, 0, none⟩ = some (.bool bp) ∧ w'.cell? ⟨w.heap.size + 1, 1, none⟩ = some (.slice Ap np cp) ∧ w'.cell? ⟨w.heap.size + 1, 2, none⟩ = some (.slice Bp mp dp) ∧ w'.cell? ⟨ge, 0, none⟩ = some (.bool be) ∧ w'.cell? ⟨ge, 1, none⟩ = some (.slice Ae ne ce) ∧ w'.cell? ⟨ge, 2, none⟩ = some (.slice Be me de) ∧ w'.cell? ⟨gg, 0, none⟩ = some (.bool bg) ∧ w'.cell? ⟨gg, 1, none⟩ = some (.slice Ag ng cg) ∧ w'.cell? ⟨gg, 2, none⟩ = some (.slice Bg mg dg) ∧ w'.cell? ⟨w10.heap.size, 0, none⟩ = some (.bool b1) ∧ w'.cell? ⟨w10.heap.size, 1, none⟩ = some (.slice A1 n1 c1) ∧ w'.cell? ⟨w10.heap.size, 2, none⟩ = some (.slice B1 m1 d1) ∧ w'.cell? ⟨w11.heap.size, 0, none⟩ = some (.bool b2) ∧ w'.cell? ⟨w11.heap.size, 1, none⟩ = some (.slice A2 n2 c2) ∧ w'.cell? ⟨w11.heap.size, 2, none⟩ = some (.slice B2 m2 d2)) (first | with_reducible exact ⟨ka.c0, ka.c1, ka.c2, kp.c0, kp.c1, kp.c2, ke.c0, ke.c1, ke.c2, kg.c0, kg.c1, kg.c2, k1.c0, k1.c1, k1.c2, k2.c0, k2.c1, k2.c2⟩)
      (first
        | (go_at_call 12; (with_reducible refine (rsame_q z1 z2 rfl).mono ?_); rintro e w21 ⟨rfl, bb⟩; have ha := ha.below bb; have hp := hp.below bb; have ka := ka.below bb; have kp := kp.below bb; have ke := ke.below bb; have kg := kg.below bb; have ze := ze.below bb; have zg := zg.below bb; have z1 := z1.below bb; have k1 := k1.below bb; have z2 := z2.below bb; have k2 := k2.below bb; have B0 := B0.trans (bb.mono B0.size); clear bb)
        | (go_at_call 13; (with_reducible refine (qcmp_q ha ze ?_ ?_ ?_ ?_ _ HSELF.out).mono ?_); omega; omega; omega; omega; rintro e w22 ⟨rfl, bb⟩; have ha := ha.below bb; have hp := hp.below bb; have ka := ka.below bb; have kp := kp.below bb; have ke := ke.below bb; have kg := kg.below bb; have ze := ze.below bb; have zg := zg.below bb; have z1 := z1.below bb; have k1 := k1.below bb; have z2 := z2.below bb; have k2 := k2.below bb; have B0 := B0.trans (bb.mono B0.size); clear bb)
        | (go_at_call 13; (with_reducible refine (qcmp_q ha hp ?_ ?_ ?_ ?_ _ HO.out).mono ?_); omega; omega; omega; omega; rintro e w23 ⟨rfl, bb⟩; have ha := ha.below bb; have hp := hp.below bb; have ka := ka.below bb; have kp := kp.below bb; have ke := ke.below bb; have kg := kg.below bb; have ze := ze.below bb; have zg := zg.below bb; have z1 := z1.below bb; have k1 := k1.below bb; have z2 := z2.below bb; have k2 := k2.below bb; have B0 := B0.trans (bb.mono B0.size); clear bb)
        | (go_at_call 13; (with_reducible refine (qcmp_q ze zg ?_ ?_ ?_ ?_ _ HO.out).mono ?_); omega; omega; omega; omega; rintro e w24 ⟨rfl, bb⟩; have ha := ha.below bb; have hp := hp.below bb; have ka := ka.below bb; have kp := kp.below bb; have ke := ke.below bb; have kg := kg.below bb; have ze := ze.below bb; have zg := zg.below bb; have z1 := z1.below bb; have k1 := k1.below bb; have z2 := z2.below bb; have k2 := k2.below bb; have B0 := B0.trans (bb.mono B0.size); clear bb)
        | (go_at_call 14; (with_reducible refine (qtext_q ha ?_ ?_ (HT.out.below B0) t HX.out).mono ?_); omega; omega; rintro e w25 ⟨rfl, bb⟩; have ha := ha.below bb; have hp := hp.below bb; have ka := ka.below bb; have kp := kp.below bb; have ke := ke.below bb; have kg := kg.below bb; have ze := ze.below bb; have zg := zg.below bb; have z1 := z1.below bb; have k1 := k1.below bb; have z2 := z2.below bb; have k2 := k2.below bb; have B0 := B0.trans (bb.mono B0.size); clear bb)
        | (go_at_call 14; (with_reducible refine (qtext_q ze ?_ ?_ (HT.out.below B0) t HX.out).mono ?_); omega; omega; rintro e w26 ⟨rfl, bb⟩; have ha := ha.below bb; have hp := hp.below bb; have ka := ka.below bb; have kp := kp.below bb; have ke := ke.below bb; have kg := kg.below bb; have ze := ze.below bb; have zg := zg.below bb; have z1 := z1.below bb; have k1 := k1.below bb; have z2 := z2.below bb; have k2 := k2.below bb; have B0 := B0.trans (bb.mono B0.size); clear bb))
    go_wp2_with fail
    have ha := ha.drew
    have hp := hp.drew
    have ka := ka.drew
    have kp := kp.drew
    have ke := ke.drew
    have kg := kg.drew
    have ze := ze.drew
    have zg := zg.drew
    have B0 := b_drew B0
    go_region_held3 (fun w' => w'.cell? ⟨w.heap.size, 0, none⟩ = some (.bool ba) ∧ w'.cell? ⟨w.heap.size, 1, none⟩ = some (.slice Aa na ca) ∧ w'.cell? ⟨w.heap.size, 2, none⟩ = some (.slice Ba ma da) ∧ w'.cell? ⟨w.heap.size + 1, 0, none⟩ = some (.bool bp) ∧ w'.cell? ⟨w.heap.size + 1, 1, none⟩ = some (.slice Ap np cp) ∧ w'.cell? ⟨w.heap.size + 1, 2, none⟩ = some (.slice Bp mp dp) ∧ w'.cell? ⟨ge, 0, none⟩ = some (.bool be) ∧ w'.cell? ⟨ge, 1, none⟩ = some (.slice Ae ne ce) ∧ w'.cell? ⟨ge, 2, none⟩ = some (.slice Be me de) ∧ w'.cell? ⟨gg, 0, none⟩ = some (.bool bg) ∧ w'.cell? ⟨gg, 1, none⟩ = some (.slice Ag ng cg) ∧ w'.cell? ⟨gg, 2, none⟩ = some (.slice Bg mg dg)) (first | with_reducible exact ⟨ka.c0, ka.c1, ka.c2, kp.c0, kp.c1, kp.c2, ke.c0, ke.c1, ke.c2, kg.c0, kg.c1, kg.c2⟩)
      (first
        | (go_at_call 15; (with_reducible refine (qnorm_q ha ?_ ?_).mono ?_); omega; omega; rintro e w31 ⟨b11, A11, n11, c11, B11, m11, d11, rfl, z11, bb⟩; have ha := ha.below bb; have hp := hp.below bb; have ka := ka.below bb; have kp := kp.below bb; have ke := ke.below bb; have kg := kg.below bb; have ze := ze.below bb; have zg := zg.below bb; have B0 := B0.trans (bb.mono B0.size); clear bb)
        | (go_at_call 15; (with_reducible refine (qnorm_q ze ?_ ?_).mono ?_); omega; omega; rintro e w32 ⟨b12, A12, n12, c12, B12, m12, d12, rfl, z12, bb⟩; have ha := ha.below bb; have hp := hp.below bb; have ka := ka.below bb; have kp := kp.below bb; have ke := ke.below bb; have kg := kg.below bb; have ze := ze.below bb; have zg := zg.below bb; have z11 := z11.below bb; have B0 := B0.trans (bb.mono B0.size); clear bb)
        | (go_at_call 12; (with_reducible refine (rsame_q z11 z12 (rfl)).mono ?_); rintro e w33 ⟨rfl, bb⟩; have ha := ha.below bb; have hp := hp.below bb; have ka := ka.below bb; have kp := kp.below bb; have ke := ke.below bb; have kg := kg.below bb; have ze := ze.below bb; have zg := zg.below bb; have z11 := z11.below bb; have z12 := z12.below bb; have B0 := B0.trans (bb.mono B0.size); clear bb)
        | (go_at_call 16; (with_reducible refine (qadd_q ha hp ?_ ?_ ?_ ?_).mono ?_); omega; omega; omega; omega; rintro e w34 ⟨b21, A21, n21, c21, B21, m21, d21, rfl, z21, bb⟩; have ha := ha.below bb; have hp := hp.below bb; have ka := ka.below bb; have kp := kp.below bb; have ke := ke.below bb; have kg := kg.below bb; have ze := ze.below bb; have zg := zg.below bb; have B0 := B0.trans (bb.mono B0.size); clear bb)
        | (go_at_call 16; (with_reducible refine (qadd_q ze zg ?_ ?_ ?_ ?_).mono ?_); omega; omega; omega; omega; rintro e w35 ⟨b22, A22, n22, c22, B22, m22, d22, rfl, z22, bb⟩; have ha := ha.below bb; have hp := hp.below bb; have ka := ka.below bb; have kp := kp.below bb; have ke := ke.below bb; have kg := kg.below bb; have ze := ze.below bb; have zg := zg.below bb; have z21 := z21.below bb; have B0 := B0.trans (bb.mono B0.size); clear bb)
        | (go_at_call 12; (with_reducible refine (rsame_q z21 z22 (rfl)).mono ?_); rintro e w36 ⟨rfl, bb⟩; have ha := ha.below bb; have hp := hp.below bb; have ka := ka.below bb; have kp := kp.below bb; have ke := ke.below bb; have kg := kg.below bb; have ze := ze.below bb; have zg := zg.below bb; have z21 := z21.below bb; have z22 := z22.below bb; have B0 := B0.trans (bb.mono B0.size); clear bb)
        | (go_at_call 17; (with_reducible refine (qmul_q ha hp ?_ ?_ ?_ ?_).mono ?_); omega; omega; omega; omega; rintro e w37 ⟨b31, A31, n31, c31, B31, m31, d31, rfl, z31, bb⟩; have ha := ha.below bb; have hp := hp.below bb; have ka := ka.below bb; have kp := kp.below bb; have ke := ke.below bb; have kg := kg.below bb; have ze := ze.below bb; have zg := zg.below bb; have B0 := B0.trans (bb.mono B0.size); clear bb)
        | (go_at_call 17; (with_reducible refine (qmul_q ze zg ?_ ?_ ?_ ?_).mono ?_); omega; omega; omega; omega; rintro e w38 ⟨b32, A32, n32, c32, B32, m32, d32, rfl, z32, bb⟩; have ha := ha.below bb; have hp := hp.below bb; have ka := ka.below bb; have kp := kp.below bb; have ke := ke.below bb; have kg := kg.below bb; have ze := ze.below bb; have zg := zg.below bb; have z31 := z31.below bb; have B0 := B0.trans (bb.mono B0.size); clear bb)
        | (go_at_call 12; (with_reducible refine (rsame_q z31 z32 (rfl)).mono ?_); rintro e w39 ⟨rfl, bb⟩; have ha := ha.below bb; have hp := hp.below bb; have ka := ka.below bb; have kp := kp.below bb; have ke := ke.below bb; have kg := kg.below bb; have ze := ze.below bb; have zg := zg.below bb; have z31 := z31.below bb; have z32 := z32.below bb; have B0 := B0.trans (bb.mono B0.size); clear bb)
        | (go_at_call 19; (with_reducible refine (qround_q ha ?_ ?_).mono ?_); omega; omega; rintro e w40 ⟨v41, rfl, z41, bb⟩; have ha := ha.below bb; have hp := hp.below bb; have ka := ka.below bb; have kp := kp.below bb; have ke := ke.below bb; have kg := kg.below bb; have ze := ze.below bb; have zg := zg.below bb; have B0 := B0.trans (bb.mono B0.size); clear bb)
        | (go_at_call 19; (with_reducible refine (qround_q ze ?_ ?_).mono ?_); omega; omega; rintro e w41 ⟨v42, rfl, z42, bb⟩; have ha := ha.below bb; have hp := hp.below bb; have ka := ka.below bb; have kp := kp.below bb; have ke := ke.below bb; have kg := kg.below bb; have ze := ze.below bb; have zg := zg.below bb; have z41 := z41.below bb; have B0 := B0.trans (bb.mono B0.size); clear bb)
        | (go_at_call 18; (with_reducible refine (rsameint_i z41 z42 (rfl)).mono ?_); rintro e w42 ⟨rfl, bb⟩; have ha := ha.below bb; have hp := hp.below bb; have ka := ka.below bb; have kp := kp.below bb; have ke := ke.below bb; have kg := kg.below bb; have ze := ze.below bb; have zg := zg.below bb; have z41 := z41.below bb; have z42 := z42.below bb; have B0 := B0.trans (bb.mono B0.size); clear bb)
        | (go_at_call 20; (with_reducible refine (qfloor_q ha ?_ ?_).mono ?_); omega; omega; rintro e w43 ⟨v51, rfl, z51, bb⟩; have ha := ha.below bb; have hp := hp.below bb; have ka := ka.below bb; have kp := kp.below bb; have ke := ke.below bb; have kg := kg.below bb; have ze := ze.below bb; have zg := zg.below bb; have B0 := B0.trans (bb.mono B0.size); clear bb)
        | (go_at_call 20; (with_reducible refine (qfloor_q ze ?_ ?_).mono ?_); omega; omega; rintro e w44 ⟨v52, rfl, z52, bb⟩; have ha := ha.below bb; have hp := hp.below bb; have ka := ka.below bb; have kp := kp.below bb; have ke := ke.below bb; have kg := kg.below bb; have ze := ze.below bb; have zg := zg.below bb; have z51 := z51.below bb; have B0 := B0.trans (bb.mono B0.size); clear bb)
        | (go_at_call 18; (with_reducible refine (rsameint_i z51 z52 (rfl)).mono ?_); rintro e w45 ⟨rfl, bb⟩; have ha := ha.below bb; have hp := hp.below bb; have ka := ka.below bb; have kp := kp.below bb; have ke := ke.below bb; have kg := kg.below bb; have ze := ze.below bb; have zg := zg.below bb; have z51 := z51.below bb; have z52 := z52.below bb; have B0 := B0.trans (bb.mono B0.size); clear bb)
        | (go_at_call 9; (with_reducible refine (example_walk _ (HT.out.below B0)).mono ?_); rintro e w46 ⟨rfl, bb⟩; have ha := ha.below bb; have hp := hp.below bb; have ka := ka.below bb; have kp := kp.below bb; have ke := ke.below bb; have kg := kg.below bb; have ze := ze.below bb; have zg := zg.below bb; have B0 := B0.trans (bb.mono B0.size); clear bb))
    go_wp2
    go_ret
    exact ⟨rfl, B0⟩
theorem ratioForms_walk (w : World) {va vp : Value} {xa xp : Rat} {ka ja kp jp : Nat} (ha : Qv w va xa ka ja) (hp : Qv w vp xp kp jp) (f : Nat) (hf : f < 4294967296) (ht : Tab w) : Calls Tryd.prog 3 #[va, vp, .int .u32 (f : Int)] w (BoolEnd true w) := by
  obtain ⟨ba, Aa, na, ca, Ba, ma, da, rfl, _, _, ha⟩ := ha.named
  obtain ⟨bp, Ap, np, cp, Bp, mp, dp, rfl, _, _, hp⟩ := hp.named
  by_cases la : 10 < na ∨ 10 < ma
  · exact ratioForms_long_a f w la ht
  by_cases lp : 10 < np ∨ 10 < mp
  · exact ratioForms_long_p f w (by omega) lp ht
  by_cases h0 : xp = 0
  · exact ratioForms_zero f w ha hp (by omega) (by omega) hf h0 ht
  · exact ratioForms_pos f w ha hp (by omega) (by omega) hf h0 ht
end Go.Proofs.YtfdildganfjahaaDoor
