/-
  The walk of measure.Format at any length.
-/
import Derived.Test.YtohlilgnognmgaaGreatDoorMeaG
namespace Go.Proofs.YtohlilgnognmgaaGreatDoor
open Go.RowKit Mea
attribute [local go_sem ↓] Go.wp_at_zero Go.wp_at_succ
set_option linter.unusedVariables false

theorem Rq.fqw {w : World} {g : Nat} (h : Rq w g) (a b c : Value) : Fq (((w.setCell ⟨g, 0, none⟩ a).setCell ⟨g, 1, none⟩ b).setCell ⟨g, 2, none⟩ c) g := by
  have hl := h.apart.1
  obtain ⟨h1, h2, h3, h4, h5, h6⟩ := h
  refine ⟨by simpa [World.setCell] using hl, by simpa using h4, by simpa using h5, by simpa using h6⟩
/-- A drawn assignment of one ratio has been done: its box can be written again. -/
def OneF (B : Nat) (W : World) (x : Rat) (k j : Nat) (s1 : Value) (wx : World) : Prop :=
  ∃ (g : Nat) (b1 : Bool) (A1 : Option Addr) (n1 c1 : Nat) (B1 : Option Addr) (m1 d1 : Nat), s1 = .pointer (some ⟨g, 0, none⟩) ∧ Bq wx g (.bool b1) (.slice A1 n1 c1) (.slice B1 m1 d1) ∧ Qz wx (.agg #[.bool b1, .slice A1 n1 c1, .slice B1 m1 d1]) x k j ∧ B ≤ g ∧ Bw B W wx ∧ Fq wx g
theorem Qz.neg {w : World} {b : Bool} {A : Option Addr} {n c : Nat} {B : Option Addr} {m c' k j : Nat} {x : Rat} (h : Qz w (.agg #[.bool b, .slice A n c, .slice B m c']) x k j) : b = decide (x < 0) := by
  obtain ⟨y, _, h1, h2⟩ := h.parts.1.parts
  have e : x < 0 ↔ x.num < 0 := by
    have := Rat.lt_iff x 0
    simpa using this
  cases b with
  | false =>
    have : ¬ x < 0 := by rw [e, h1, sgn_false]; omega
    simp [this]
  | true =>
    have hy : y ≠ 0 := fun h => by have := h2 h; cases this
    have : x < 0 := by rw [e, h1, sgn_true]; omega
    simp [this]
def FOk (r : ByteArray) (w : World) (e : Ending) (w' : World) : Prop := e = .returned (.tuple #[.string r, .int .i64 0]) ∧ Below w.heap.size w w'
def FErr (w : World) (e : Ending) (w' : World) : Prop := e = .returned (.tuple #[.string ⟨#[]⟩, .int .i64 3]) ∧ Below w.heap.size w w'
theorem hund : ((100 : Int) : Rat) ≠ 0 := by decide
set_option maxRecDepth 20000 in
set_option maxHeartbeats 8000000 in
theorem mfmt_p_big {w : World} {va : Value} {x : Rat} {k j : Nat} (ha : Qv w va x k j) (hk : k ≤ 60) (hj : j ≤ 60) (ht : Tab w) (hn : decide (x / 100 < 0) = false) (hy : x / 100 = absQ x / 100) (hl : 9223372036854775807 < (absQ x / 100).floor) : Calls Tryz.prog 13 #[va] w (FErr w) := by
  obtain ⟨ba, Aa, na, ca, Ba, ma, da, rfl, _, _, _⟩ := ha.named
  have HT := Lib.hid ht
  clear ht
  have HN := Lib.hid hn
  clear hn
  have HY := Lib.hid hy
  clear hy
  have HL := Lib.hid hl
  clear hl
  have B0 := below_a1 w (.cells #[.bool ba, .slice Aa na ca, .slice Ba ma da] 27)
  have ha := ha.below B0
  have ka := (Bq.new w (w.heap.size) (by simp) (.bool ba) (.slice Aa na ca) (.slice Ba ma da))
  go_enter Tryz.func13, Tryz.ntmps13
  go_upto_region 1 with fail
  obtain ⟨wb, hW⟩ : ∃ W0, (w.alloc (.cells #[.bool ba, .slice Aa na ca, .slice Ba ma da] 27)) = W0 := ⟨_, rfl⟩
  rw [hW] at ha ka B0 ⊢
  clear hW
  have lka := ka.lt
  have hs : Bw (wb.heap.size) wb wb := ⟨Below.refl _ _, Nat.le_refl _⟩
  have HS : Hid (∀ w', Bw (wb.heap.size) wb w' → w'.cell? ⟨w.heap.size, 0, none⟩ = some (.bool ba) ∧ w'.cell? ⟨w.heap.size, 1, none⟩ = some (.slice Aa na ca) ∧ w'.cell? ⟨w.heap.size, 2, none⟩ = some (.slice Ba ma da)) := by
    intro w' hb
    have e0 := hb.bq ka (by omega)
    exact ⟨e0.c0, e0.c1, e0.c2⟩
  go_cut [4] (fun s4 wx => OneF (wb.heap.size) wb (x / 100) (k + max 2 2) (2 + max j 2) s4 wx)
  case first =>
    clear ka
    go_region_held3 (fun w' => w'.cell? ⟨w.heap.size, 0, none⟩ = some (.bool ba) ∧ w'.cell? ⟨w.heap.size, 1, none⟩ = some (.slice Aa na ca) ∧ w'.cell? ⟨w.heap.size, 2, none⟩ = some (.slice Ba ma da))
      (first | with_reducible exact HS.out _ hs | (with_reducible refine HS.out _ ?_; repeat (first | with_reducible exact hs | with_reducible refine Bw.drew ?_ | with_reducible refine Bw.alloc ?_ _ | with_reducible refine Bw.set ?_ _ (by first | omega | (simp; done) | (simp; omega)) _)))
      (first
        | (go_at_call 30; (first | (with_reducible refine (integral_q 100 (by decide) (by decide) _).mono ?_) | (with_reducible refine (integral_q 100 (by decide) (by decide) _).mono ?_)); rintro e w70 ⟨b5, A5, n5, c5, B5, m5, d5, rfl, z5, bb⟩; (first | have ha := ha.drew.below bb | have ha := (ha.below (below_alloc _ _)).drew.below bb); (first | have hs := hs.drew.up bb | have hs := (hs.alloc _).drew.up bb); have z_0 := hs.2; (first | (have p0_0 := ((Rq.new _ (wb.heap.size) (by first | rfl | simp))).drew.below bb) | skip); (try obtain ⟨p0_0_a, p0_0_b, p0_0_c⟩ := p0_0.apart); clear bb)
        | (go_at_call 29; (first | (with_reducible refine (qdiv_q ha z5.qv ?_ ?_ ?_ ?_ hund).mono ?_) | (with_reducible refine (qdiv_q (ha.below (below_alloc _ _)) (z5.below (below_alloc _ _)).qv ?_ ?_ ?_ ?_ hund).mono ?_)); omega; omega; omega; omega; rintro e w71 ⟨b12, A12, n12, c12, B12, m12, d12, rfl, z12, bb⟩; (first | have ha := ha.below bb | have ha := (ha.below (below_alloc _ _)).below bb); (first | have z5 := z5.below bb | have z5 := (z5.below (below_alloc _ _)).below bb); (first | have hs := hs.up bb | have hs := (hs.alloc _).up bb); have z_1 := hs.2; (try (first | have p0_0 := p0_0.below bb | have p0_0 := (p0_0.below (below_alloc _ _)).below bb)); (first | (have p1_0 := ((Rq.new _ (w70.heap.size) (by first | rfl | simp))).below bb) | skip); (try obtain ⟨p0_0_a, p0_0_b, p0_0_c⟩ := p0_0.apart); (try obtain ⟨p1_0_a, p1_0_b, p1_0_c⟩ := p1_0.apart); (try (have p0_0_0 := p0_0.1; have p0_0_1 := p0_0.2.1; have p0_0_2 := p0_0.2.2.1; have p0_0_3 := p0_0.2.2.2.1; have p0_0_4 := p0_0.2.2.2.2.1; have p0_0_5 := p0_0.2.2.2.2.2)); (try (have p1_0_0 := p1_0.1; have p1_0_1 := p1_0.2.1; have p1_0_2 := p1_0.2.2.1; have p1_0_3 := p1_0.2.2.2.1; have p1_0_4 := p1_0.2.2.2.2.1; have p1_0_5 := p1_0.2.2.2.2.2)); clear bb))
    all_goals
      go_wp2_with fail
      go_meet
      refine ⟨_, b12, A12, n12, c12, B12, m12, d12, rfl, ?_, ?_, ?_, ?_, ?_⟩
      all_goals
        repeat' (first | with_reducible assumption | (with_reducible exact Fq.new _ _ (by simp) _ _ _) | (with_reducible refine Rq.fqw ?_ _ _ _) | (with_reducible exact Bq.new _ _ (by simp) _ _ _) | (with_reducible exact Bx.new _ _ (by simp) _ _) | (with_reducible refine Bq.later ?_ _) | (with_reducible refine Bx.later ?_ _) | (with_reducible refine Rq.written ?_ _ _ _) | (with_reducible refine Rx.written ?_ _ _) | (with_reducible refine Bq.ret3 ?_ (by omega) _ _ _) | (with_reducible refine Bq.ret ?_ (by omega) _ _) | (with_reducible refine Bx.ret3 ?_ (by omega) _ _ _) | (with_reducible refine Bx.ret ?_ (by omega) _ _) | (with_reducible refine Qz.later ?_ _) | (with_reducible refine Qz.ret3 ?_ ?_ _ _ _) | (with_reducible refine Qz.ret ?_ ?_ _ _) | (with_reducible refine Qv.later ?_ _) | (with_reducible refine Qv.ret3 ?_ ?_ _ _ _) | (with_reducible refine Qv.ret ?_ ?_ _ _) | (with_reducible refine Iz.later ?_ _) | (with_reducible refine Iz.ret3 ?_ ?_ _ _ _) | (with_reducible refine Iz.ret ?_ ?_ _ _) | (with_reducible refine Rq.ret3 ?_ (by omega) _ _ _) | (with_reducible refine Rx.ret ?_ (by omega) _ _) | (with_reducible refine Bw.alloc ?_ _) | (with_reducible refine Bw.ret3 ?_ (by omega) _ _ _) | (with_reducible refine Bw.ret ?_ (by omega) _ _) | omega)
  case rest =>
    obtain ⟨g12, b12, A12, n12, c12, B12, m12, d12, rfl, k12, z12, l12, hw, fv⟩ := hcut
    have ka := hw.bq ka (by omega)
    have B0 := B0.trans (hw.1.mono B0.size)
    clear HS
    clear hw
    obtain rfl : b12 = false := z12.neg.trans HN.out
    rw [HY.out] at z12
    have k12_0 := k12.c0
    have k12_1 := k12.c1
    have k12_2 := k12.c2
    go_wp2_with fail
    refine (qfloor_q z12.qv (by omega) (by omega)).mono ?_
    clear k12_0 k12_1 k12_2
    rintro e w31 ⟨v3, rfl, z3, bb⟩
    have k12 := k12.below bb
    have z12 := z12.below bb
    have fv := fv.below bb
    have B0 := B0.trans (bb.mono B0.size)
    clear bb
    have k12_0 := k12.c0
    have k12_1 := k12.c1
    have k12_2 := k12.c2
    go_wp2_with fail
    refine (ismall_no z3.iv (by omega) (by have := HL.out; omega)).mono ?_
    clear k12_0 k12_1 k12_2
    rintro e w32 ⟨rfl, bb⟩
    have k12 := k12.below bb
    have z12 := z12.below bb
    have fv := fv.below bb
    have z3 := z3.below bb
    have B0 := B0.trans (bb.mono B0.size)
    clear bb
    go_wp2
    go_ret2
    exact ⟨rfl, B0⟩
set_option maxRecDepth 20000 in
set_option maxHeartbeats 8000000 in
theorem mfmt_p_over {w : World} {va : Value} {x : Rat} {k j : Nat} (ha : Qv w va x k j) (hk : k ≤ 60) (hj : j ≤ 60) (ht : Tab w) (hn : decide (x / 100 < 0) = false) (hy : x / 100 = absQ x / 100) (n : Nat) (hl : (absQ x / 100).floor = (n : Int)) (h9 : (9999999 : Int) < (n : Int)) (hm : (n : Int) ≤ 9223372036854775807) : Calls Tryz.prog 13 #[va] w (FErr w) := by
  obtain ⟨ba, Aa, na, ca, Ba, ma, da, rfl, _, _, _⟩ := ha.named
  have HT := Lib.hid ht
  clear ht
  have HN := Lib.hid hn
  clear hn
  have HY := Lib.hid hy
  clear hy
  have HL := Lib.hid hl
  clear hl
  have HM := Lib.hid hm
  clear hm
  have B0 := below_a1 w (.cells #[.bool ba, .slice Aa na ca, .slice Ba ma da] 27)
  have ha := ha.below B0
  have ka := (Bq.new w (w.heap.size) (by simp) (.bool ba) (.slice Aa na ca) (.slice Ba ma da))
  go_enter Tryz.func13, Tryz.ntmps13
  go_upto_region 1 with fail
  obtain ⟨wb, hW⟩ : ∃ W0, (w.alloc (.cells #[.bool ba, .slice Aa na ca, .slice Ba ma da] 27)) = W0 := ⟨_, rfl⟩
  rw [hW] at ha ka B0 ⊢
  clear hW
  have lka := ka.lt
  have hs : Bw (wb.heap.size) wb wb := ⟨Below.refl _ _, Nat.le_refl _⟩
  have HS : Hid (∀ w', Bw (wb.heap.size) wb w' → w'.cell? ⟨w.heap.size, 0, none⟩ = some (.bool ba) ∧ w'.cell? ⟨w.heap.size, 1, none⟩ = some (.slice Aa na ca) ∧ w'.cell? ⟨w.heap.size, 2, none⟩ = some (.slice Ba ma da)) := by
    intro w' hb
    have e0 := hb.bq ka (by omega)
    exact ⟨e0.c0, e0.c1, e0.c2⟩
  go_cut [4] (fun s4 wx => OneF (wb.heap.size) wb (x / 100) (k + max 2 2) (2 + max j 2) s4 wx)
  case first =>
    clear ka
    go_region_held3 (fun w' => w'.cell? ⟨w.heap.size, 0, none⟩ = some (.bool ba) ∧ w'.cell? ⟨w.heap.size, 1, none⟩ = some (.slice Aa na ca) ∧ w'.cell? ⟨w.heap.size, 2, none⟩ = some (.slice Ba ma da))
      (first | with_reducible exact HS.out _ hs | (with_reducible refine HS.out _ ?_; repeat (first | with_reducible exact hs | with_reducible refine Bw.drew ?_ | with_reducible refine Bw.alloc ?_ _ | with_reducible refine Bw.set ?_ _ (by first | omega | (simp; done) | (simp; omega)) _)))
      (first
        | (go_at_call 30; (first | (with_reducible refine (integral_q 100 (by decide) (by decide) _).mono ?_) | (with_reducible refine (integral_q 100 (by decide) (by decide) _).mono ?_)); rintro e w70 ⟨b5, A5, n5, c5, B5, m5, d5, rfl, z5, bb⟩; (first | have ha := ha.drew.below bb | have ha := (ha.below (below_alloc _ _)).drew.below bb); (first | have hs := hs.drew.up bb | have hs := (hs.alloc _).drew.up bb); have z_0 := hs.2; (first | (have p0_0 := ((Rq.new _ (wb.heap.size) (by first | rfl | simp))).drew.below bb) | skip); (try obtain ⟨p0_0_a, p0_0_b, p0_0_c⟩ := p0_0.apart); clear bb)
        | (go_at_call 29; (first | (with_reducible refine (qdiv_q ha z5.qv ?_ ?_ ?_ ?_ hund).mono ?_) | (with_reducible refine (qdiv_q (ha.below (below_alloc _ _)) (z5.below (below_alloc _ _)).qv ?_ ?_ ?_ ?_ hund).mono ?_)); omega; omega; omega; omega; rintro e w71 ⟨b12, A12, n12, c12, B12, m12, d12, rfl, z12, bb⟩; (first | have ha := ha.below bb | have ha := (ha.below (below_alloc _ _)).below bb); (first | have z5 := z5.below bb | have z5 := (z5.below (below_alloc _ _)).below bb); (first | have hs := hs.up bb | have hs := (hs.alloc _).up bb); have z_1 := hs.2; (try (first | have p0_0 := p0_0.below bb | have p0_0 := (p0_0.below (below_alloc _ _)).below bb)); (first | (have p1_0 := ((Rq.new _ (w70.heap.size) (by first | rfl | simp))).below bb) | skip); (try obtain ⟨p0_0_a, p0_0_b, p0_0_c⟩ := p0_0.apart); (try obtain ⟨p1_0_a, p1_0_b, p1_0_c⟩ := p1_0.apart); (try (have p0_0_0 := p0_0.1; have p0_0_1 := p0_0.2.1; have p0_0_2 := p0_0.2.2.1; have p0_0_3 := p0_0.2.2.2.1; have p0_0_4 := p0_0.2.2.2.2.1; have p0_0_5 := p0_0.2.2.2.2.2)); (try (have p1_0_0 := p1_0.1; have p1_0_1 := p1_0.2.1; have p1_0_2 := p1_0.2.2.1; have p1_0_3 := p1_0.2.2.2.1; have p1_0_4 := p1_0.2.2.2.2.1; have p1_0_5 := p1_0.2.2.2.2.2)); clear bb))
    all_goals
      go_wp2_with fail
      go_meet
      refine ⟨_, b12, A12, n12, c12, B12, m12, d12, rfl, ?_, ?_, ?_, ?_, ?_⟩
      all_goals
        repeat' (first | with_reducible assumption | (with_reducible exact Fq.new _ _ (by simp) _ _ _) | (with_reducible refine Rq.fqw ?_ _ _ _) | (with_reducible exact Bq.new _ _ (by simp) _ _ _) | (with_reducible exact Bx.new _ _ (by simp) _ _) | (with_reducible refine Bq.later ?_ _) | (with_reducible refine Bx.later ?_ _) | (with_reducible refine Rq.written ?_ _ _ _) | (with_reducible refine Rx.written ?_ _ _) | (with_reducible refine Bq.ret3 ?_ (by omega) _ _ _) | (with_reducible refine Bq.ret ?_ (by omega) _ _) | (with_reducible refine Bx.ret3 ?_ (by omega) _ _ _) | (with_reducible refine Bx.ret ?_ (by omega) _ _) | (with_reducible refine Qz.later ?_ _) | (with_reducible refine Qz.ret3 ?_ ?_ _ _ _) | (with_reducible refine Qz.ret ?_ ?_ _ _) | (with_reducible refine Qv.later ?_ _) | (with_reducible refine Qv.ret3 ?_ ?_ _ _ _) | (with_reducible refine Qv.ret ?_ ?_ _ _) | (with_reducible refine Iz.later ?_ _) | (with_reducible refine Iz.ret3 ?_ ?_ _ _ _) | (with_reducible refine Iz.ret ?_ ?_ _ _) | (with_reducible refine Rq.ret3 ?_ (by omega) _ _ _) | (with_reducible refine Rx.ret ?_ (by omega) _ _) | (with_reducible refine Bw.alloc ?_ _) | (with_reducible refine Bw.ret3 ?_ (by omega) _ _ _) | (with_reducible refine Bw.ret ?_ (by omega) _ _) | omega)
  case rest =>
    obtain ⟨g12, b12, A12, n12, c12, B12, m12, d12, rfl, k12, z12, l12, hw, fv⟩ := hcut
    have ka := hw.bq ka (by omega)
    have B0 := B0.trans (hw.1.mono B0.size)
    clear HS
    clear hw
    obtain rfl : b12 = false := z12.neg.trans HN.out
    rw [HY.out] at z12
    have k12_0 := k12.c0
    have k12_1 := k12.c1
    have k12_2 := k12.c2
    go_wp2_with fail
    refine (qfloor_q z12.qv (by omega) (by omega)).mono ?_
    clear k12_0 k12_1 k12_2
    rintro e w31 ⟨v3, rfl, z3, bb⟩
    have k12 := k12.below bb
    have z12 := z12.below bb
    have fv := fv.below bb
    have B0 := B0.trans (bb.mono B0.size)
    clear bb
    rw [HL.out] at z3
    have k12_0 := k12.c0
    have k12_1 := k12.c1
    have k12_2 := k12.c2
    go_wp2_with fail
    refine (ismall_yes z3.iv (by omega) (by omega) (by have := HM.out; omega)).mono ?_
    clear k12_0 k12_1 k12_2
    rintro e w32 ⟨rfl, bb⟩
    have k12 := k12.below bb
    have z12 := z12.below bb
    have fv := fv.below bb
    have z3 := z3.below bb
    have B0 := B0.trans (bb.mono B0.size)
    clear bb
    go_wp2
    go_ret2
    exact ⟨rfl, B0⟩
set_option maxRecDepth 20000 in
set_option maxHeartbeats 8000000 in
theorem mfmt_p_none {w : World} {va : Value} {x : Rat} {k j : Nat} (ha : Qv w va x k j) (hk : k ≤ 60) (hj : j ≤ 60) (ht : Tab w) (hn : decide (x / 100 < 0) = false) (hy : x / 100 = absQ x / 100) (n : Nat) (hl : (absQ x / 100).floor = (n : Int)) (h9 : ¬ (9999999 : Int) < (n : Int)) (hr : absQ x / 100 - ((n : Int) : Rat) = restQ x) (u : ByteArray) (hu : u.size ≤ 1000) (hv : ∀ (w : World) (v : Value) (k j : Nat), Qz w v (restQ x) k j → k ≤ 900 → j ≤ 900 → Tab w → Calls Tryz.prog 32 #[.int .i64 (n : Int), v] w (SbEnd u false w)) : Calls Tryz.prog 13 #[va] w (FErr w) := by
  obtain ⟨ba, Aa, na, ca, Ba, ma, da, rfl, _, _, _⟩ := ha.named
  have HT := Lib.hid ht
  clear ht
  have HN := Lib.hid hn
  clear hn
  have HY := Lib.hid hy
  clear hy
  have HL := Lib.hid hl
  clear hl
  have HR := Lib.hid hr
  clear hr
  have HV := Lib.hid hv
  clear hv
  have B0 := below_a1 w (.cells #[.bool ba, .slice Aa na ca, .slice Ba ma da] 27)
  have ha := ha.below B0
  have ka := (Bq.new w (w.heap.size) (by simp) (.bool ba) (.slice Aa na ca) (.slice Ba ma da))
  go_enter Tryz.func13, Tryz.ntmps13
  go_upto_region 1 with fail
  obtain ⟨wb, hW⟩ : ∃ W0, (w.alloc (.cells #[.bool ba, .slice Aa na ca, .slice Ba ma da] 27)) = W0 := ⟨_, rfl⟩
  rw [hW] at ha ka B0 ⊢
  clear hW
  have lka := ka.lt
  have hs : Bw (wb.heap.size) wb wb := ⟨Below.refl _ _, Nat.le_refl _⟩
  have HS : Hid (∀ w', Bw (wb.heap.size) wb w' → w'.cell? ⟨w.heap.size, 0, none⟩ = some (.bool ba) ∧ w'.cell? ⟨w.heap.size, 1, none⟩ = some (.slice Aa na ca) ∧ w'.cell? ⟨w.heap.size, 2, none⟩ = some (.slice Ba ma da)) := by
    intro w' hb
    have e0 := hb.bq ka (by omega)
    exact ⟨e0.c0, e0.c1, e0.c2⟩
  go_cut [4] (fun s4 wx => OneF (wb.heap.size) wb (x / 100) (k + max 2 2) (2 + max j 2) s4 wx)
  case first =>
    clear ka
    go_region_held3 (fun w' => w'.cell? ⟨w.heap.size, 0, none⟩ = some (.bool ba) ∧ w'.cell? ⟨w.heap.size, 1, none⟩ = some (.slice Aa na ca) ∧ w'.cell? ⟨w.heap.size, 2, none⟩ = some (.slice Ba ma da))
      (first | with_reducible exact HS.out _ hs | (with_reducible refine HS.out _ ?_; repeat (first | with_reducible exact hs | with_reducible refine Bw.drew ?_ | with_reducible refine Bw.alloc ?_ _ | with_reducible refine Bw.set ?_ _ (by first | omega | (simp; done) | (simp; omega)) _)))
      (first
        | (go_at_call 30; (first | (with_reducible refine (integral_q 100 (by decide) (by decide) _).mono ?_) | (with_reducible refine (integral_q 100 (by decide) (by decide) _).mono ?_)); rintro e w70 ⟨b5, A5, n5, c5, B5, m5, d5, rfl, z5, bb⟩; (first | have ha := ha.drew.below bb | have ha := (ha.below (below_alloc _ _)).drew.below bb); (first | have hs := hs.drew.up bb | have hs := (hs.alloc _).drew.up bb); have z_0 := hs.2; (first | (have p0_0 := ((Rq.new _ (wb.heap.size) (by first | rfl | simp))).drew.below bb) | skip); (try obtain ⟨p0_0_a, p0_0_b, p0_0_c⟩ := p0_0.apart); clear bb)
        | (go_at_call 29; (first | (with_reducible refine (qdiv_q ha z5.qv ?_ ?_ ?_ ?_ hund).mono ?_) | (with_reducible refine (qdiv_q (ha.below (below_alloc _ _)) (z5.below (below_alloc _ _)).qv ?_ ?_ ?_ ?_ hund).mono ?_)); omega; omega; omega; omega; rintro e w71 ⟨b12, A12, n12, c12, B12, m12, d12, rfl, z12, bb⟩; (first | have ha := ha.below bb | have ha := (ha.below (below_alloc _ _)).below bb); (first | have z5 := z5.below bb | have z5 := (z5.below (below_alloc _ _)).below bb); (first | have hs := hs.up bb | have hs := (hs.alloc _).up bb); have z_1 := hs.2; (try (first | have p0_0 := p0_0.below bb | have p0_0 := (p0_0.below (below_alloc _ _)).below bb)); (first | (have p1_0 := ((Rq.new _ (w70.heap.size) (by first | rfl | simp))).below bb) | skip); (try obtain ⟨p0_0_a, p0_0_b, p0_0_c⟩ := p0_0.apart); (try obtain ⟨p1_0_a, p1_0_b, p1_0_c⟩ := p1_0.apart); (try (have p0_0_0 := p0_0.1; have p0_0_1 := p0_0.2.1; have p0_0_2 := p0_0.2.2.1; have p0_0_3 := p0_0.2.2.2.1; have p0_0_4 := p0_0.2.2.2.2.1; have p0_0_5 := p0_0.2.2.2.2.2)); (try (have p1_0_0 := p1_0.1; have p1_0_1 := p1_0.2.1; have p1_0_2 := p1_0.2.2.1; have p1_0_3 := p1_0.2.2.2.1; have p1_0_4 := p1_0.2.2.2.2.1; have p1_0_5 := p1_0.2.2.2.2.2)); clear bb))
    all_goals
      go_wp2_with fail
      go_meet
      refine ⟨_, b12, A12, n12, c12, B12, m12, d12, rfl, ?_, ?_, ?_, ?_, ?_⟩
      all_goals
        repeat' (first | with_reducible assumption | (with_reducible exact Fq.new _ _ (by simp) _ _ _) | (with_reducible refine Rq.fqw ?_ _ _ _) | (with_reducible exact Bq.new _ _ (by simp) _ _ _) | (with_reducible exact Bx.new _ _ (by simp) _ _) | (with_reducible refine Bq.later ?_ _) | (with_reducible refine Bx.later ?_ _) | (with_reducible refine Rq.written ?_ _ _ _) | (with_reducible refine Rx.written ?_ _ _) | (with_reducible refine Bq.ret3 ?_ (by omega) _ _ _) | (with_reducible refine Bq.ret ?_ (by omega) _ _) | (with_reducible refine Bx.ret3 ?_ (by omega) _ _ _) | (with_reducible refine Bx.ret ?_ (by omega) _ _) | (with_reducible refine Qz.later ?_ _) | (with_reducible refine Qz.ret3 ?_ ?_ _ _ _) | (with_reducible refine Qz.ret ?_ ?_ _ _) | (with_reducible refine Qv.later ?_ _) | (with_reducible refine Qv.ret3 ?_ ?_ _ _ _) | (with_reducible refine Qv.ret ?_ ?_ _ _) | (with_reducible refine Iz.later ?_ _) | (with_reducible refine Iz.ret3 ?_ ?_ _ _ _) | (with_reducible refine Iz.ret ?_ ?_ _ _) | (with_reducible refine Rq.ret3 ?_ (by omega) _ _ _) | (with_reducible refine Rx.ret ?_ (by omega) _ _) | (with_reducible refine Bw.alloc ?_ _) | (with_reducible refine Bw.ret3 ?_ (by omega) _ _ _) | (with_reducible refine Bw.ret ?_ (by omega) _ _) | omega)
  case rest =>
    obtain ⟨g12, b12, A12, n12, c12, B12, m12, d12, rfl, k12, z12, l12, hw, fv⟩ := hcut
    have ka := hw.bq ka (by omega)
    have B0 := B0.trans (hw.1.mono B0.size)
    clear HS
    clear hw
    obtain rfl : b12 = false := z12.neg.trans HN.out
    rw [HY.out] at z12
    have k12_0 := k12.c0
    have k12_1 := k12.c1
    have k12_2 := k12.c2
    go_wp2_with fail
    refine (qfloor_q z12.qv (by omega) (by omega)).mono ?_
    clear k12_0 k12_1 k12_2
    rintro e w31 ⟨v3, rfl, z3, bb⟩
    have k12 := k12.below bb
    have z12 := z12.below bb
    have fv := fv.below bb
    have B0 := B0.trans (bb.mono B0.size)
    clear bb
    rw [HL.out] at z3
    have k12_0 := k12.c0
    have k12_1 := k12.c1
    have k12_2 := k12.c2
    go_wp2_with fail
    refine (ismall_yes z3.iv (by omega) (by omega) (by omega)).mono ?_
    clear k12_0 k12_1 k12_2
    rintro e w32 ⟨rfl, bb⟩
    have k12 := k12.below bb
    have z12 := z12.below bb
    have fv := fv.below bb
    have z3 := z3.below bb
    have B0 := B0.trans (bb.mono B0.size)
    clear bb
    go_wp2_with fail
    have k12 := k12.drew
    have z12 := z12.drew
    have fv := fv.drew
    have B0 := b_drew B0
    go_region_held3 (fun w' => w'.cell? ⟨g12, 0, none⟩ = some (.bool false) ∧ w'.cell? ⟨g12, 1, none⟩ = some (.slice A12 n12 c12) ∧ w'.cell? ⟨g12, 2, none⟩ = some (.slice B12 m12 d12)) (first | with_reducible exact ⟨k12.c0, k12.c1, k12.c2⟩)
      (first
        | (go_at_call 30; (with_reducible refine (integral_q (n : Int) ?_ ?_ _).mono ?_); omega; omega; rintro e w41 ⟨b41, A41, n41, c41, B41, m41, d41, rfl, z41, bb⟩; have k12 := k12.below bb; have z12 := z12.below bb; have fv := fv.below bb; have B0 := B0.trans (bb.mono B0.size); clear bb)
        | (go_at_call 21; (with_reducible refine (qsub_q z12.qv z41.qv ?_ ?_ ?_ ?_).mono ?_); omega; omega; omega; omega; rintro e w42 ⟨b42, A42, n42, c42, B42, m42, d42, rfl, z42, bb⟩; have k12 := k12.below bb; have z12 := z12.below bb; have fv := fv.below bb; have z41 := z41.below bb; have B0 := B0.trans (bb.mono B0.size); clear bb; rw [HR.out] at z42)
        | (go_at_call 32; (with_reducible refine (HV.out _ _ _ _ z42 ?_ ?_ (HT.out.below B0)).mono ?_); omega; omega; rintro e w43 ⟨rfl, bb⟩; have k12 := k12.below bb; have z12 := z12.below bb; have fv := fv.below bb; have z42 := z42.below bb; have B0 := B0.trans (bb.mono B0.size); clear bb))
    go_wp2
    go_ret2
    exact ⟨rfl, B0⟩
set_option maxRecDepth 20000 in
set_option maxHeartbeats 8000000 in
theorem mfmt_p_some {w : World} {va : Value} {x : Rat} {k j : Nat} (ha : Qv w va x k j) (hk : k ≤ 60) (hj : j ≤ 60) (ht : Tab w) (hn : decide (x / 100 < 0) = false) (hy : x / 100 = absQ x / 100) (n : Nat) (hl : (absQ x / 100).floor = (n : Int)) (h9 : ¬ (9999999 : Int) < (n : Int)) (hr : absQ x / 100 - ((n : Int) : Rat) = restQ x) (u : ByteArray) (hu : u.size ≤ 1000) (hv : ∀ (w : World) (v : Value) (k j : Nat), Qz w v (restQ x) k j → k ≤ 900 → j ≤ 900 → Tab w → Calls Tryz.prog 32 #[.int .i64 (n : Int), v] w (SbEnd u true w)) (r : ByteArray) (hs : u ++ ⟨#[109, 109]⟩ = r) : Calls Tryz.prog 13 #[va] w (FOk r w) := by
  obtain ⟨ba, Aa, na, ca, Ba, ma, da, rfl, _, _, _⟩ := ha.named
  have HT := Lib.hid ht
  clear ht
  have HN := Lib.hid hn
  clear hn
  have HY := Lib.hid hy
  clear hy
  have HL := Lib.hid hl
  clear hl
  have HR := Lib.hid hr
  clear hr
  have HV := Lib.hid hv
  clear hv
  have HS := Lib.hid hs
  clear hs
  have B0 := below_a1 w (.cells #[.bool ba, .slice Aa na ca, .slice Ba ma da] 27)
  have ha := ha.below B0
  have ka := (Bq.new w (w.heap.size) (by simp) (.bool ba) (.slice Aa na ca) (.slice Ba ma da))
  go_enter Tryz.func13, Tryz.ntmps13
  go_upto_region 1 with fail
  obtain ⟨wb, hW⟩ : ∃ W0, (w.alloc (.cells #[.bool ba, .slice Aa na ca, .slice Ba ma da] 27)) = W0 := ⟨_, rfl⟩
  rw [hW] at ha ka B0 ⊢
  clear hW
  have lka := ka.lt
  have hs : Bw (wb.heap.size) wb wb := ⟨Below.refl _ _, Nat.le_refl _⟩
  have HS : Hid (∀ w', Bw (wb.heap.size) wb w' → w'.cell? ⟨w.heap.size, 0, none⟩ = some (.bool ba) ∧ w'.cell? ⟨w.heap.size, 1, none⟩ = some (.slice Aa na ca) ∧ w'.cell? ⟨w.heap.size, 2, none⟩ = some (.slice Ba ma da)) := by
    intro w' hb
    have e0 := hb.bq ka (by omega)
    exact ⟨e0.c0, e0.c1, e0.c2⟩
  go_cut [4] (fun s4 wx => OneF (wb.heap.size) wb (x / 100) (k + max 2 2) (2 + max j 2) s4 wx)
  case first =>
    clear ka
    go_region_held3 (fun w' => w'.cell? ⟨w.heap.size, 0, none⟩ = some (.bool ba) ∧ w'.cell? ⟨w.heap.size, 1, none⟩ = some (.slice Aa na ca) ∧ w'.cell? ⟨w.heap.size, 2, none⟩ = some (.slice Ba ma da))
      (first | with_reducible exact HS.out _ hs | (with_reducible refine HS.out _ ?_; repeat (first | with_reducible exact hs | with_reducible refine Bw.drew ?_ | with_reducible refine Bw.alloc ?_ _ | with_reducible refine Bw.set ?_ _ (by first | omega | (simp; done) | (simp; omega)) _)))
      (first
        | (go_at_call 30; (first | (with_reducible refine (integral_q 100 (by decide) (by decide) _).mono ?_) | (with_reducible refine (integral_q 100 (by decide) (by decide) _).mono ?_)); rintro e w70 ⟨b5, A5, n5, c5, B5, m5, d5, rfl, z5, bb⟩; (first | have ha := ha.drew.below bb | have ha := (ha.below (below_alloc _ _)).drew.below bb); (first | have hs := hs.drew.up bb | have hs := (hs.alloc _).drew.up bb); have z_0 := hs.2; (first | (have p0_0 := ((Rq.new _ (wb.heap.size) (by first | rfl | simp))).drew.below bb) | skip); (try obtain ⟨p0_0_a, p0_0_b, p0_0_c⟩ := p0_0.apart); clear bb)
        | (go_at_call 29; (first | (with_reducible refine (qdiv_q ha z5.qv ?_ ?_ ?_ ?_ hund).mono ?_) | (with_reducible refine (qdiv_q (ha.below (below_alloc _ _)) (z5.below (below_alloc _ _)).qv ?_ ?_ ?_ ?_ hund).mono ?_)); omega; omega; omega; omega; rintro e w71 ⟨b12, A12, n12, c12, B12, m12, d12, rfl, z12, bb⟩; (first | have ha := ha.below bb | have ha := (ha.below (below_alloc _ _)).below bb); (first | have z5 := z5.below bb | have z5 := (z5.below (below_alloc _ _)).below bb); (first | have hs := hs.up bb | have hs := (hs.alloc _).up bb); have z_1 := hs.2; (try (first | have p0_0 := p0_0.below bb | have p0_0 := (p0_0.below (below_alloc _ _)).below bb)); (first | (have p1_0 := ((Rq.new _ (w70.heap.size) (by first | rfl | simp))).below bb) | skip); (try obtain ⟨p0_0_a, p0_0_b, p0_0_c⟩ := p0_0.apart); (try obtain ⟨p1_0_a, p1_0_b, p1_0_c⟩ := p1_0.apart); (try (have p0_0_0 := p0_0.1; have p0_0_1 := p0_0.2.1; have p0_0_2 := p0_0.2.2.1; have p0_0_3 := p0_0.2.2.2.1; have p0_0_4 := p0_0.2.2.2.2.1; have p0_0_5 := p0_0.2.2.2.2.2)); (try (have p1_0_0 := p1_0.1; have p1_0_1 := p1_0.2.1; have p1_0_2 := p1_0.2.2.1; have p1_0_3 := p1_0.2.2.2.1; have p1_0_4 := p1_0.2.2.2.2.1; have p1_0_5 := p1_0.2.2.2.2.2)); clear bb))
    all_goals
      go_wp2_with fail
      go_meet
      refine ⟨_, b12, A12, n12, c12, B12, m12, d12, rfl, ?_, ?_, ?_, ?_, ?_⟩
      all_goals
        repeat' (first | with_reducible assumption | (with_reducible exact Fq.new _ _ (by simp) _ _ _) | (with_reducible refine Rq.fqw ?_ _ _ _) | (with_reducible exact Bq.new _ _ (by simp) _ _ _) | (with_reducible exact Bx.new _ _ (by simp) _ _) | (with_reducible refine Bq.later ?_ _) | (with_reducible refine Bx.later ?_ _) | (with_reducible refine Rq.written ?_ _ _ _) | (with_reducible refine Rx.written ?_ _ _) | (with_reducible refine Bq.ret3 ?_ (by omega) _ _ _) | (with_reducible refine Bq.ret ?_ (by omega) _ _) | (with_reducible refine Bx.ret3 ?_ (by omega) _ _ _) | (with_reducible refine Bx.ret ?_ (by omega) _ _) | (with_reducible refine Qz.later ?_ _) | (with_reducible refine Qz.ret3 ?_ ?_ _ _ _) | (with_reducible refine Qz.ret ?_ ?_ _ _) | (with_reducible refine Qv.later ?_ _) | (with_reducible refine Qv.ret3 ?_ ?_ _ _ _) | (with_reducible refine Qv.ret ?_ ?_ _ _) | (with_reducible refine Iz.later ?_ _) | (with_reducible refine Iz.ret3 ?_ ?_ _ _ _) | (with_reducible refine Iz.ret ?_ ?_ _ _) | (with_reducible refine Rq.ret3 ?_ (by omega) _ _ _) | (with_reducible refine Rx.ret ?_ (by omega) _ _) | (with_reducible refine Bw.alloc ?_ _) | (with_reducible refine Bw.ret3 ?_ (by omega) _ _ _) | (with_reducible refine Bw.ret ?_ (by omega) _ _) | omega)
  case rest =>
    obtain ⟨g12, b12, A12, n12, c12, B12, m12, d12, rfl, k12, z12, l12, hw, fv⟩ := hcut
    have ka := hw.bq ka (by omega)
    have B0 := B0.trans (hw.1.mono B0.size)
    clear HS
    clear hw
    obtain rfl : b12 = false := z12.neg.trans HN.out
    rw [HY.out] at z12
    have k12_0 := k12.c0
    have k12_1 := k12.c1
    have k12_2 := k12.c2
    go_wp2_with fail
    refine (qfloor_q z12.qv (by omega) (by omega)).mono ?_
    clear k12_0 k12_1 k12_2
    rintro e w31 ⟨v3, rfl, z3, bb⟩
    have k12 := k12.below bb
    have z12 := z12.below bb
    have fv := fv.below bb
    have B0 := B0.trans (bb.mono B0.size)
    clear bb
    rw [HL.out] at z3
    have k12_0 := k12.c0
    have k12_1 := k12.c1
    have k12_2 := k12.c2
    go_wp2_with fail
    refine (ismall_yes z3.iv (by omega) (by omega) (by omega)).mono ?_
    clear k12_0 k12_1 k12_2
    rintro e w32 ⟨rfl, bb⟩
    have k12 := k12.below bb
    have z12 := z12.below bb
    have fv := fv.below bb
    have z3 := z3.below bb
    have B0 := B0.trans (bb.mono B0.size)
    clear bb
    go_wp2_with fail
    have k12 := k12.drew
    have z12 := z12.drew
    have fv := fv.drew
    have B0 := b_drew B0
    go_region_held3 (fun w' => w'.cell? ⟨g12, 0, none⟩ = some (.bool false) ∧ w'.cell? ⟨g12, 1, none⟩ = some (.slice A12 n12 c12) ∧ w'.cell? ⟨g12, 2, none⟩ = some (.slice B12 m12 d12)) (first | with_reducible exact ⟨k12.c0, k12.c1, k12.c2⟩)
      (first
        | (go_at_call 30; (with_reducible refine (integral_q (n : Int) ?_ ?_ _).mono ?_); omega; omega; rintro e w41 ⟨b41, A41, n41, c41, B41, m41, d41, rfl, z41, bb⟩; have k12 := k12.below bb; have z12 := z12.below bb; have fv := fv.below bb; have B0 := B0.trans (bb.mono B0.size); clear bb)
        | (go_at_call 21; (with_reducible refine (qsub_q z12.qv z41.qv ?_ ?_ ?_ ?_).mono ?_); omega; omega; omega; omega; rintro e w42 ⟨b42, A42, n42, c42, B42, m42, d42, rfl, z42, bb⟩; have k12 := k12.below bb; have z12 := z12.below bb; have fv := fv.below bb; have z41 := z41.below bb; have B0 := B0.trans (bb.mono B0.size); clear bb; rw [HR.out] at z42)
        | (go_at_call 32; (with_reducible refine (HV.out _ _ _ _ z42 ?_ ?_ (HT.out.below B0)).mono ?_); omega; omega; rintro e w43 ⟨rfl, bb⟩; have k12 := k12.below bb; have z12 := z12.below bb; have fv := fv.below bb; have z42 := z42.below bb; have B0 := B0.trans (bb.mono B0.size); clear bb))
    go_wp2
    go_ret2
    rw [← HS.out]
    exact ⟨rfl, B0⟩
set_option maxRecDepth 20000 in
set_option maxHeartbeats 8000000 in
theorem mfmt_n_big {w : World} {va : Value} {x : Rat} {k j : Nat} (ha : Qv w va x k j) (hk : k ≤ 60) (hj : j ≤ 60) (ht : Tab w) (hn : decide (x / 100 < 0) = true) (hy : -(x / 100) = absQ x / 100) (hl : 9223372036854775807 < (absQ x / 100).floor) : Calls Tryz.prog 13 #[va] w (FErr w) := by
  obtain ⟨ba, Aa, na, ca, Ba, ma, da, rfl, _, _, _⟩ := ha.named
  have HT := Lib.hid ht
  clear ht
  have HN := Lib.hid hn
  clear hn
  have HY := Lib.hid hy
  clear hy
  have HL := Lib.hid hl
  clear hl
  have B0 := below_a1 w (.cells #[.bool ba, .slice Aa na ca, .slice Ba ma da] 27)
  have ha := ha.below B0
  have ka := (Bq.new w (w.heap.size) (by simp) (.bool ba) (.slice Aa na ca) (.slice Ba ma da))
  go_enter Tryz.func13, Tryz.ntmps13
  go_upto_region 1 with fail
  obtain ⟨wb, hW⟩ : ∃ W0, (w.alloc (.cells #[.bool ba, .slice Aa na ca, .slice Ba ma da] 27)) = W0 := ⟨_, rfl⟩
  rw [hW] at ha ka B0 ⊢
  clear hW
  have lka := ka.lt
  have hs : Bw (wb.heap.size) wb wb := ⟨Below.refl _ _, Nat.le_refl _⟩
  have HS : Hid (∀ w', Bw (wb.heap.size) wb w' → w'.cell? ⟨w.heap.size, 0, none⟩ = some (.bool ba) ∧ w'.cell? ⟨w.heap.size, 1, none⟩ = some (.slice Aa na ca) ∧ w'.cell? ⟨w.heap.size, 2, none⟩ = some (.slice Ba ma da)) := by
    intro w' hb
    have e0 := hb.bq ka (by omega)
    exact ⟨e0.c0, e0.c1, e0.c2⟩
  go_cut [4] (fun s4 wx => OneF (wb.heap.size) wb (x / 100) (k + max 2 2) (2 + max j 2) s4 wx)
  case first =>
    clear ka
    go_region_held3 (fun w' => w'.cell? ⟨w.heap.size, 0, none⟩ = some (.bool ba) ∧ w'.cell? ⟨w.heap.size, 1, none⟩ = some (.slice Aa na ca) ∧ w'.cell? ⟨w.heap.size, 2, none⟩ = some (.slice Ba ma da))
      (first | with_reducible exact HS.out _ hs | (with_reducible refine HS.out _ ?_; repeat (first | with_reducible exact hs | with_reducible refine Bw.drew ?_ | with_reducible refine Bw.alloc ?_ _ | with_reducible refine Bw.set ?_ _ (by first | omega | (simp; done) | (simp; omega)) _)))
      (first
        | (go_at_call 30; (first | (with_reducible refine (integral_q 100 (by decide) (by decide) _).mono ?_) | (with_reducible refine (integral_q 100 (by decide) (by decide) _).mono ?_)); rintro e w70 ⟨b5, A5, n5, c5, B5, m5, d5, rfl, z5, bb⟩; (first | have ha := ha.drew.below bb | have ha := (ha.below (below_alloc _ _)).drew.below bb); (first | have hs := hs.drew.up bb | have hs := (hs.alloc _).drew.up bb); have z_0 := hs.2; (first | (have p0_0 := ((Rq.new _ (wb.heap.size) (by first | rfl | simp))).drew.below bb) | skip); (try obtain ⟨p0_0_a, p0_0_b, p0_0_c⟩ := p0_0.apart); clear bb)
        | (go_at_call 29; (first | (with_reducible refine (qdiv_q ha z5.qv ?_ ?_ ?_ ?_ hund).mono ?_) | (with_reducible refine (qdiv_q (ha.below (below_alloc _ _)) (z5.below (below_alloc _ _)).qv ?_ ?_ ?_ ?_ hund).mono ?_)); omega; omega; omega; omega; rintro e w71 ⟨b12, A12, n12, c12, B12, m12, d12, rfl, z12, bb⟩; (first | have ha := ha.below bb | have ha := (ha.below (below_alloc _ _)).below bb); (first | have z5 := z5.below bb | have z5 := (z5.below (below_alloc _ _)).below bb); (first | have hs := hs.up bb | have hs := (hs.alloc _).up bb); have z_1 := hs.2; (try (first | have p0_0 := p0_0.below bb | have p0_0 := (p0_0.below (below_alloc _ _)).below bb)); (first | (have p1_0 := ((Rq.new _ (w70.heap.size) (by first | rfl | simp))).below bb) | skip); (try obtain ⟨p0_0_a, p0_0_b, p0_0_c⟩ := p0_0.apart); (try obtain ⟨p1_0_a, p1_0_b, p1_0_c⟩ := p1_0.apart); (try (have p0_0_0 := p0_0.1; have p0_0_1 := p0_0.2.1; have p0_0_2 := p0_0.2.2.1; have p0_0_3 := p0_0.2.2.2.1; have p0_0_4 := p0_0.2.2.2.2.1; have p0_0_5 := p0_0.2.2.2.2.2)); (try (have p1_0_0 := p1_0.1; have p1_0_1 := p1_0.2.1; have p1_0_2 := p1_0.2.2.1; have p1_0_3 := p1_0.2.2.2.1; have p1_0_4 := p1_0.2.2.2.2.1; have p1_0_5 := p1_0.2.2.2.2.2)); clear bb))
    all_goals
      go_wp2_with fail
      go_meet
      refine ⟨_, b12, A12, n12, c12, B12, m12, d12, rfl, ?_, ?_, ?_, ?_, ?_⟩
      all_goals
        repeat' (first | with_reducible assumption | (with_reducible exact Fq.new _ _ (by simp) _ _ _) | (with_reducible refine Rq.fqw ?_ _ _ _) | (with_reducible exact Bq.new _ _ (by simp) _ _ _) | (with_reducible exact Bx.new _ _ (by simp) _ _) | (with_reducible refine Bq.later ?_ _) | (with_reducible refine Bx.later ?_ _) | (with_reducible refine Rq.written ?_ _ _ _) | (with_reducible refine Rx.written ?_ _ _) | (with_reducible refine Bq.ret3 ?_ (by omega) _ _ _) | (with_reducible refine Bq.ret ?_ (by omega) _ _) | (with_reducible refine Bx.ret3 ?_ (by omega) _ _ _) | (with_reducible refine Bx.ret ?_ (by omega) _ _) | (with_reducible refine Qz.later ?_ _) | (with_reducible refine Qz.ret3 ?_ ?_ _ _ _) | (with_reducible refine Qz.ret ?_ ?_ _ _) | (with_reducible refine Qv.later ?_ _) | (with_reducible refine Qv.ret3 ?_ ?_ _ _ _) | (with_reducible refine Qv.ret ?_ ?_ _ _) | (with_reducible refine Iz.later ?_ _) | (with_reducible refine Iz.ret3 ?_ ?_ _ _ _) | (with_reducible refine Iz.ret ?_ ?_ _ _) | (with_reducible refine Rq.ret3 ?_ (by omega) _ _ _) | (with_reducible refine Rx.ret ?_ (by omega) _ _) | (with_reducible refine Bw.alloc ?_ _) | (with_reducible refine Bw.ret3 ?_ (by omega) _ _ _) | (with_reducible refine Bw.ret ?_ (by omega) _ _) | omega)
  case rest =>
    obtain ⟨g12, b12, A12, n12, c12, B12, m12, d12, rfl, k12, z12, l12, hw, fv⟩ := hcut
    have ka := hw.bq ka (by omega)
    have B0 := B0.trans (hw.1.mono B0.size)
    clear HS
    clear hw
    obtain rfl : b12 = true := z12.neg.trans HN.out
    have k12_0 := k12.c0
    have k12_1 := k12.c1
    have k12_2 := k12.c2
    go_wp2_with fail
    refine (qneg_q z12.qv (by omega) (by omega)).mono ?_
    clear k12_0 k12_1 k12_2
    rintro e w21 ⟨b20, A20, n20, c20, B20, m20, d20, rfl, z20, bb⟩
    have k12 := k12.below bb
    have z12 := z12.below bb
    have fv := fv.below bb
    have B0 := B0.trans (bb.mono B0.size)
    clear bb
    have k12_0 := k12.c0
    have k12_1 := k12.c1
    have k12_2 := k12.c2
    have f1 := fv.2.1
    have f2 := fv.2.2.1
    have f3 := fv.2.2.2
    go_wp2_with fail
    clear f1 f2 f3
    clear k12_0 k12_1 k12_2
    have z20 := z20.over k12 (.bool b20) (.slice A20 n20 c20) (.slice B20 m20 d20)
    have k12 := k12.over (.bool b20) (.slice A20 n20 c20) (.slice B20 m20 d20)
    have B0 := below_ret3 (g := g12) B0 (by omega) (.bool b20) (.slice A20 n20 c20) (.slice B20 m20 d20)
    clear fv
    rw [HY.out] at z20
    refine (qfloor_q z20.qv (by omega) (by omega)).mono ?_
    rintro e w31 ⟨v3, rfl, z3, bb⟩
    have k12 := k12.below bb
    have z20 := z20.below bb
    have B0 := B0.trans (bb.mono B0.size)
    clear bb
    have k12_0 := k12.c0
    have k12_1 := k12.c1
    have k12_2 := k12.c2
    go_wp2_with fail
    refine (ismall_no z3.iv (by omega) (by have := HL.out; omega)).mono ?_
    clear k12_0 k12_1 k12_2
    rintro e w32 ⟨rfl, bb⟩
    have k12 := k12.below bb
    have z20 := z20.below bb
    have z3 := z3.below bb
    have B0 := B0.trans (bb.mono B0.size)
    clear bb
    go_wp2
    go_ret2
    exact ⟨rfl, B0⟩
set_option maxRecDepth 20000 in
set_option maxHeartbeats 8000000 in
theorem mfmt_n_over {w : World} {va : Value} {x : Rat} {k j : Nat} (ha : Qv w va x k j) (hk : k ≤ 60) (hj : j ≤ 60) (ht : Tab w) (hn : decide (x / 100 < 0) = true) (hy : -(x / 100) = absQ x / 100) (n : Nat) (hl : (absQ x / 100).floor = (n : Int)) (h9 : (9999999 : Int) < (n : Int)) (hm : (n : Int) ≤ 9223372036854775807) : Calls Tryz.prog 13 #[va] w (FErr w) := by
  obtain ⟨ba, Aa, na, ca, Ba, ma, da, rfl, _, _, _⟩ := ha.named
  have HT := Lib.hid ht
  clear ht
  have HN := Lib.hid hn
  clear hn
  have HY := Lib.hid hy
  clear hy
  have HL := Lib.hid hl
  clear hl
  have HM := Lib.hid hm
  clear hm
  have B0 := below_a1 w (.cells #[.bool ba, .slice Aa na ca, .slice Ba ma da] 27)
  have ha := ha.below B0
  have ka := (Bq.new w (w.heap.size) (by simp) (.bool ba) (.slice Aa na ca) (.slice Ba ma da))
  go_enter Tryz.func13, Tryz.ntmps13
  go_upto_region 1 with fail
  obtain ⟨wb, hW⟩ : ∃ W0, (w.alloc (.cells #[.bool ba, .slice Aa na ca, .slice Ba ma da] 27)) = W0 := ⟨_, rfl⟩
  rw [hW] at ha ka B0 ⊢
  clear hW
  have lka := ka.lt
  have hs : Bw (wb.heap.size) wb wb := ⟨Below.refl _ _, Nat.le_refl _⟩
  have HS : Hid (∀ w', Bw (wb.heap.size) wb w' → w'.cell? ⟨w.heap.size, 0, none⟩ = some (.bool ba) ∧ w'.cell? ⟨w.heap.size, 1, none⟩ = some (.slice Aa na ca) ∧ w'.cell? ⟨w.heap.size, 2, none⟩ = some (.slice Ba ma da)) := by
    intro w' hb
    have e0 := hb.bq ka (by omega)
    exact ⟨e0.c0, e0.c1, e0.c2⟩
  go_cut [4] (fun s4 wx => OneF (wb.heap.size) wb (x / 100) (k + max 2 2) (2 + max j 2) s4 wx)
  case first =>
    clear ka
    go_region_held3 (fun w' => w'.cell? ⟨w.heap.size, 0, none⟩ = some (.bool ba) ∧ w'.cell? ⟨w.heap.size, 1, none⟩ = some (.slice Aa na ca) ∧ w'.cell? ⟨w.heap.size, 2, none⟩ = some (.slice Ba ma da))
      (first | with_reducible exact HS.out _ hs | (with_reducible refine HS.out _ ?_; repeat (first | with_reducible exact hs | with_reducible refine Bw.drew ?_ | with_reducible refine Bw.alloc ?_ _ | with_reducible refine Bw.set ?_ _ (by first | omega | (simp; done) | (simp; omega)) _)))
      (first
        | (go_at_call 30; (first | (with_reducible refine (integral_q 100 (by decide) (by decide) _).mono ?_) | (with_reducible refine (integral_q 100 (by decide) (by decide) _).mono ?_)); rintro e w70 ⟨b5, A5, n5, c5, B5, m5, d5, rfl, z5, bb⟩; (first | have ha := ha.drew.below bb | have ha := (ha.below (below_alloc _ _)).drew.below bb); (first | have hs := hs.drew.up bb | have hs := (hs.alloc _).drew.up bb); have z_0 := hs.2; (first | (have p0_0 := ((Rq.new _ (wb.heap.size) (by first | rfl | simp))).drew.below bb) | skip); (try obtain ⟨p0_0_a, p0_0_b, p0_0_c⟩ := p0_0.apart); clear bb)
        | (go_at_call 29; (first | (with_reducible refine (qdiv_q ha z5.qv ?_ ?_ ?_ ?_ hund).mono ?_) | (with_reducible refine (qdiv_q (ha.below (below_alloc _ _)) (z5.below (below_alloc _ _)).qv ?_ ?_ ?_ ?_ hund).mono ?_)); omega; omega; omega; omega; rintro e w71 ⟨b12, A12, n12, c12, B12, m12, d12, rfl, z12, bb⟩; (first | have ha := ha.below bb | have ha := (ha.below (below_alloc _ _)).below bb); (first | have z5 := z5.below bb | have z5 := (z5.below (below_alloc _ _)).below bb); (first | have hs := hs.up bb | have hs := (hs.alloc _).up bb); have z_1 := hs.2; (try (first | have p0_0 := p0_0.below bb | have p0_0 := (p0_0.below (below_alloc _ _)).below bb)); (first | (have p1_0 := ((Rq.new _ (w70.heap.size) (by first | rfl | simp))).below bb) | skip); (try obtain ⟨p0_0_a, p0_0_b, p0_0_c⟩ := p0_0.apart); (try obtain ⟨p1_0_a, p1_0_b, p1_0_c⟩ := p1_0.apart); (try (have p0_0_0 := p0_0.1; have p0_0_1 := p0_0.2.1; have p0_0_2 := p0_0.2.2.1; have p0_0_3 := p0_0.2.2.2.1; have p0_0_4 := p0_0.2.2.2.2.1; have p0_0_5 := p0_0.2.2.2.2.2)); (try (have p1_0_0 := p1_0.1; have p1_0_1 := p1_0.2.1; have p1_0_2 := p1_0.2.2.1; have p1_0_3 := p1_0.2.2.2.1; have p1_0_4 := p1_0.2.2.2.2.1; have p1_0_5 := p1_0.2.2.2.2.2)); clear bb))
    all_goals
      go_wp2_with fail
      go_meet
      refine ⟨_, b12, A12, n12, c12, B12, m12, d12, rfl, ?_, ?_, ?_, ?_, ?_⟩
      all_goals
        repeat' (first | with_reducible assumption | (with_reducible exact Fq.new _ _ (by simp) _ _ _) | (with_reducible refine Rq.fqw ?_ _ _ _) | (with_reducible exact Bq.new _ _ (by simp) _ _ _) | (with_reducible exact Bx.new _ _ (by simp) _ _) | (with_reducible refine Bq.later ?_ _) | (with_reducible refine Bx.later ?_ _) | (with_reducible refine Rq.written ?_ _ _ _) | (with_reducible refine Rx.written ?_ _ _) | (with_reducible refine Bq.ret3 ?_ (by omega) _ _ _) | (with_reducible refine Bq.ret ?_ (by omega) _ _) | (with_reducible refine Bx.ret3 ?_ (by omega) _ _ _) | (with_reducible refine Bx.ret ?_ (by omega) _ _) | (with_reducible refine Qz.later ?_ _) | (with_reducible refine Qz.ret3 ?_ ?_ _ _ _) | (with_reducible refine Qz.ret ?_ ?_ _ _) | (with_reducible refine Qv.later ?_ _) | (with_reducible refine Qv.ret3 ?_ ?_ _ _ _) | (with_reducible refine Qv.ret ?_ ?_ _ _) | (with_reducible refine Iz.later ?_ _) | (with_reducible refine Iz.ret3 ?_ ?_ _ _ _) | (with_reducible refine Iz.ret ?_ ?_ _ _) | (with_reducible refine Rq.ret3 ?_ (by omega) _ _ _) | (with_reducible refine Rx.ret ?_ (by omega) _ _) | (with_reducible refine Bw.alloc ?_ _) | (with_reducible refine Bw.ret3 ?_ (by omega) _ _ _) | (with_reducible refine Bw.ret ?_ (by omega) _ _) | omega)
  case rest =>
    obtain ⟨g12, b12, A12, n12, c12, B12, m12, d12, rfl, k12, z12, l12, hw, fv⟩ := hcut
    have ka := hw.bq ka (by omega)
    have B0 := B0.trans (hw.1.mono B0.size)
    clear HS
    clear hw
    obtain rfl : b12 = true := z12.neg.trans HN.out
    have k12_0 := k12.c0
    have k12_1 := k12.c1
    have k12_2 := k12.c2
    go_wp2_with fail
    refine (qneg_q z12.qv (by omega) (by omega)).mono ?_
    clear k12_0 k12_1 k12_2
    rintro e w21 ⟨b20, A20, n20, c20, B20, m20, d20, rfl, z20, bb⟩
    have k12 := k12.below bb
    have z12 := z12.below bb
    have fv := fv.below bb
    have B0 := B0.trans (bb.mono B0.size)
    clear bb
    have k12_0 := k12.c0
    have k12_1 := k12.c1
    have k12_2 := k12.c2
    have f1 := fv.2.1
    have f2 := fv.2.2.1
    have f3 := fv.2.2.2
    go_wp2_with fail
    clear f1 f2 f3
    clear k12_0 k12_1 k12_2
    have z20 := z20.over k12 (.bool b20) (.slice A20 n20 c20) (.slice B20 m20 d20)
    have k12 := k12.over (.bool b20) (.slice A20 n20 c20) (.slice B20 m20 d20)
    have B0 := below_ret3 (g := g12) B0 (by omega) (.bool b20) (.slice A20 n20 c20) (.slice B20 m20 d20)
    clear fv
    rw [HY.out] at z20
    refine (qfloor_q z20.qv (by omega) (by omega)).mono ?_
    rintro e w31 ⟨v3, rfl, z3, bb⟩
    have k12 := k12.below bb
    have z20 := z20.below bb
    have B0 := B0.trans (bb.mono B0.size)
    clear bb
    rw [HL.out] at z3
    have k12_0 := k12.c0
    have k12_1 := k12.c1
    have k12_2 := k12.c2
    go_wp2_with fail
    refine (ismall_yes z3.iv (by omega) (by omega) (by have := HM.out; omega)).mono ?_
    clear k12_0 k12_1 k12_2
    rintro e w32 ⟨rfl, bb⟩
    have k12 := k12.below bb
    have z20 := z20.below bb
    have z3 := z3.below bb
    have B0 := B0.trans (bb.mono B0.size)
    clear bb
    go_wp2
    go_ret2
    exact ⟨rfl, B0⟩
set_option maxRecDepth 20000 in
set_option maxHeartbeats 8000000 in
theorem mfmt_n_none {w : World} {va : Value} {x : Rat} {k j : Nat} (ha : Qv w va x k j) (hk : k ≤ 60) (hj : j ≤ 60) (ht : Tab w) (hn : decide (x / 100 < 0) = true) (hy : -(x / 100) = absQ x / 100) (n : Nat) (hl : (absQ x / 100).floor = (n : Int)) (h9 : ¬ (9999999 : Int) < (n : Int)) (hr : absQ x / 100 - ((n : Int) : Rat) = restQ x) (u : ByteArray) (hu : u.size ≤ 1000) (hv : ∀ (w : World) (v : Value) (k j : Nat), Qz w v (restQ x) k j → k ≤ 900 → j ≤ 900 → Tab w → Calls Tryz.prog 32 #[.int .i64 (n : Int), v] w (SbEnd u false w)) : Calls Tryz.prog 13 #[va] w (FErr w) := by
  obtain ⟨ba, Aa, na, ca, Ba, ma, da, rfl, _, _, _⟩ := ha.named
  have HT := Lib.hid ht
  clear ht
  have HN := Lib.hid hn
  clear hn
  have HY := Lib.hid hy
  clear hy
  have HL := Lib.hid hl
  clear hl
  have HR := Lib.hid hr
  clear hr
  have HV := Lib.hid hv
  clear hv
  have B0 := below_a1 w (.cells #[.bool ba, .slice Aa na ca, .slice Ba ma da] 27)
  have ha := ha.below B0
  have ka := (Bq.new w (w.heap.size) (by simp) (.bool ba) (.slice Aa na ca) (.slice Ba ma da))
  go_enter Tryz.func13, Tryz.ntmps13
  go_upto_region 1 with fail
  obtain ⟨wb, hW⟩ : ∃ W0, (w.alloc (.cells #[.bool ba, .slice Aa na ca, .slice Ba ma da] 27)) = W0 := ⟨_, rfl⟩
  rw [hW] at ha ka B0 ⊢
  clear hW
  have lka := ka.lt
  have hs : Bw (wb.heap.size) wb wb := ⟨Below.refl _ _, Nat.le_refl _⟩
  have HS : Hid (∀ w', Bw (wb.heap.size) wb w' → w'.cell? ⟨w.heap.size, 0, none⟩ = some (.bool ba) ∧ w'.cell? ⟨w.heap.size, 1, none⟩ = some (.slice Aa na ca) ∧ w'.cell? ⟨w.heap.size, 2, none⟩ = some (.slice Ba ma da)) := by
    intro w' hb
    have e0 := hb.bq ka (by omega)
    exact ⟨e0.c0, e0.c1, e0.c2⟩
  go_cut [4] (fun s4 wx => OneF (wb.heap.size) wb (x / 100) (k + max 2 2) (2 + max j 2) s4 wx)
  case first =>
    clear ka
    go_region_held3 (fun w' => w'.cell? ⟨w.heap.size, 0, none⟩ = some (.bool ba) ∧ w'.cell? ⟨w.heap.size, 1, none⟩ = some (.slice Aa na ca) ∧ w'.cell? ⟨w.heap.size, 2, none⟩ = some (.slice Ba ma da))
      (first | with_reducible exact HS.out _ hs | (with_reducible refine HS.out _ ?_; repeat (first | with_reducible exact hs | with_reducible refine Bw.drew ?_ | with_reducible refine Bw.alloc ?_ _ | with_reducible refine Bw.set ?_ _ (by first | omega | (simp; done) | (simp; omega)) _)))
      (first
        | (go_at_call 30; (first | (with_reducible refine (integral_q 100 (by decide) (by decide) _).mono ?_) | (with_reducible refine (integral_q 100 (by decide) (by decide) _).mono ?_)); rintro e w70 ⟨b5, A5, n5, c5, B5, m5, d5, rfl, z5, bb⟩; (first | have ha := ha.drew.below bb | have ha := (ha.below (below_alloc _ _)).drew.below bb); (first | have hs := hs.drew.up bb | have hs := (hs.alloc _).drew.up bb); have z_0 := hs.2; (first | (have p0_0 := ((Rq.new _ (wb.heap.size) (by first | rfl | simp))).drew.below bb) | skip); (try obtain ⟨p0_0_a, p0_0_b, p0_0_c⟩ := p0_0.apart); clear bb)
        | (go_at_call 29; (first | (with_reducible refine (qdiv_q ha z5.qv ?_ ?_ ?_ ?_ hund).mono ?_) | (with_reducible refine (qdiv_q (ha.below (below_alloc _ _)) (z5.below (below_alloc _ _)).qv ?_ ?_ ?_ ?_ hund).mono ?_)); omega; omega; omega; omega; rintro e w71 ⟨b12, A12, n12, c12, B12, m12, d12, rfl, z12, bb⟩; (first | have ha := ha.below bb | have ha := (ha.below (below_alloc _ _)).below bb); (first | have z5 := z5.below bb | have z5 := (z5.below (below_alloc _ _)).below bb); (first | have hs := hs.up bb | have hs := (hs.alloc _).up bb); have z_1 := hs.2; (try (first | have p0_0 := p0_0.below bb | have p0_0 := (p0_0.below (below_alloc _ _)).below bb)); (first | (have p1_0 := ((Rq.new _ (w70.heap.size) (by first | rfl | simp))).below bb) | skip); (try obtain ⟨p0_0_a, p0_0_b, p0_0_c⟩ := p0_0.apart); (try obtain ⟨p1_0_a, p1_0_b, p1_0_c⟩ := p1_0.apart); (try (have p0_0_0 := p0_0.1; have p0_0_1 := p0_0.2.1; have p0_0_2 := p0_0.2.2.1; have p0_0_3 := p0_0.2.2.2.1; have p0_0_4 := p0_0.2.2.2.2.1; have p0_0_5 := p0_0.2.2.2.2.2)); (try (have p1_0_0 := p1_0.1; have p1_0_1 := p1_0.2.1; have p1_0_2 := p1_0.2.2.1; have p1_0_3 := p1_0.2.2.2.1; have p1_0_4 := p1_0.2.2.2.2.1; have p1_0_5 := p1_0.2.2.2.2.2)); clear bb))
    all_goals
      go_wp2_with fail
      go_meet
      refine ⟨_, b12, A12, n12, c12, B12, m12, d12, rfl, ?_, ?_, ?_, ?_, ?_⟩
      all_goals
        repeat' (first | with_reducible assumption | (with_reducible exact Fq.new _ _ (by simp) _ _ _) | (with_reducible refine Rq.fqw ?_ _ _ _) | (with_reducible exact Bq.new _ _ (by simp) _ _ _) | (with_reducible exact Bx.new _ _ (by simp) _ _) | (with_reducible refine Bq.later ?_ _) | (with_reducible refine Bx.later ?_ _) | (with_reducible refine Rq.written ?_ _ _ _) | (with_reducible refine Rx.written ?_ _ _) | (with_reducible refine Bq.ret3 ?_ (by omega) _ _ _) | (with_reducible refine Bq.ret ?_ (by omega) _ _) | (with_reducible refine Bx.ret3 ?_ (by omega) _ _ _) | (with_reducible refine Bx.ret ?_ (by omega) _ _) | (with_reducible refine Qz.later ?_ _) | (with_reducible refine Qz.ret3 ?_ ?_ _ _ _) | (with_reducible refine Qz.ret ?_ ?_ _ _) | (with_reducible refine Qv.later ?_ _) | (with_reducible refine Qv.ret3 ?_ ?_ _ _ _) | (with_reducible refine Qv.ret ?_ ?_ _ _) | (with_reducible refine Iz.later ?_ _) | (with_reducible refine Iz.ret3 ?_ ?_ _ _ _) | (with_reducible refine Iz.ret ?_ ?_ _ _) | (with_reducible refine Rq.ret3 ?_ (by omega) _ _ _) | (with_reducible refine Rx.ret ?_ (by omega) _ _) | (with_reducible refine Bw.alloc ?_ _) | (with_reducible refine Bw.ret3 ?_ (by omega) _ _ _) | (with_reducible refine Bw.ret ?_ (by omega) _ _) | omega)
  case rest =>
    obtain ⟨g12, b12, A12, n12, c12, B12, m12, d12, rfl, k12, z12, l12, hw, fv⟩ := hcut
    have ka := hw.bq ka (by omega)
    have B0 := B0.trans (hw.1.mono B0.size)
    clear HS
    clear hw
    obtain rfl : b12 = true := z12.neg.trans HN.out
    have k12_0 := k12.c0
    have k12_1 := k12.c1
    have k12_2 := k12.c2
    go_wp2_with fail
    refine (qneg_q z12.qv (by omega) (by omega)).mono ?_
    clear k12_0 k12_1 k12_2
    rintro e w21 ⟨b20, A20, n20, c20, B20, m20, d20, rfl, z20, bb⟩
    have k12 := k12.below bb
    have z12 := z12.below bb
    have fv := fv.below bb
    have B0 := B0.trans (bb.mono B0.size)
    clear bb
    have k12_0 := k12.c0
    have k12_1 := k12.c1
    have k12_2 := k12.c2
    have f1 := fv.2.1
    have f2 := fv.2.2.1
    have f3 := fv.2.2.2
    go_wp2_with fail
    clear f1 f2 f3
    clear k12_0 k12_1 k12_2
    have z20 := z20.over k12 (.bool b20) (.slice A20 n20 c20) (.slice B20 m20 d20)
    have k12 := k12.over (.bool b20) (.slice A20 n20 c20) (.slice B20 m20 d20)
    have B0 := below_ret3 (g := g12) B0 (by omega) (.bool b20) (.slice A20 n20 c20) (.slice B20 m20 d20)
    clear fv
    rw [HY.out] at z20
    refine (qfloor_q z20.qv (by omega) (by omega)).mono ?_
    rintro e w31 ⟨v3, rfl, z3, bb⟩
    have k12 := k12.below bb
    have z20 := z20.below bb
    have B0 := B0.trans (bb.mono B0.size)
    clear bb
    rw [HL.out] at z3
    have k12_0 := k12.c0
    have k12_1 := k12.c1
    have k12_2 := k12.c2
    go_wp2_with fail
    refine (ismall_yes z3.iv (by omega) (by omega) (by omega)).mono ?_
    clear k12_0 k12_1 k12_2
    rintro e w32 ⟨rfl, bb⟩
    have k12 := k12.below bb
    have z20 := z20.below bb
    have z3 := z3.below bb
    have B0 := B0.trans (bb.mono B0.size)
    clear bb
    go_wp2_with fail
    have k12 := k12.drew
    have z20 := z20.drew
    have B0 := b_drew B0
    go_region_held3 (fun w' => w'.cell? ⟨g12, 0, none⟩ = some (.bool b20) ∧ w'.cell? ⟨g12, 1, none⟩ = some (.slice A20 n20 c20) ∧ w'.cell? ⟨g12, 2, none⟩ = some (.slice B20 m20 d20)) (first | with_reducible exact ⟨k12.c0, k12.c1, k12.c2⟩)
      (first
        | (go_at_call 30; (with_reducible refine (integral_q (n : Int) ?_ ?_ _).mono ?_); omega; omega; rintro e w41 ⟨b41, A41, n41, c41, B41, m41, d41, rfl, z41, bb⟩; have k12 := k12.below bb; have z20 := z20.below bb; have B0 := B0.trans (bb.mono B0.size); clear bb)
        | (go_at_call 21; (with_reducible refine (qsub_q z20.qv z41.qv ?_ ?_ ?_ ?_).mono ?_); omega; omega; omega; omega; rintro e w42 ⟨b42, A42, n42, c42, B42, m42, d42, rfl, z42, bb⟩; have k12 := k12.below bb; have z20 := z20.below bb; have z41 := z41.below bb; have B0 := B0.trans (bb.mono B0.size); clear bb; rw [HR.out] at z42)
        | (go_at_call 32; (with_reducible refine (HV.out _ _ _ _ z42 ?_ ?_ (HT.out.below B0)).mono ?_); omega; omega; rintro e w43 ⟨rfl, bb⟩; have k12 := k12.below bb; have z20 := z20.below bb; have z42 := z42.below bb; have B0 := B0.trans (bb.mono B0.size); clear bb))
    go_wp2
    go_ret2
    exact ⟨rfl, B0⟩
set_option maxRecDepth 20000 in
set_option maxHeartbeats 8000000 in
theorem mfmt_n_some {w : World} {va : Value} {x : Rat} {k j : Nat} (ha : Qv w va x k j) (hk : k ≤ 60) (hj : j ≤ 60) (ht : Tab w) (hn : decide (x / 100 < 0) = true) (hy : -(x / 100) = absQ x / 100) (n : Nat) (hl : (absQ x / 100).floor = (n : Int)) (h9 : ¬ (9999999 : Int) < (n : Int)) (hr : absQ x / 100 - ((n : Int) : Rat) = restQ x) (u : ByteArray) (hu : u.size ≤ 1000) (hv : ∀ (w : World) (v : Value) (k j : Nat), Qz w v (restQ x) k j → k ≤ 900 → j ≤ 900 → Tab w → Calls Tryz.prog 32 #[.int .i64 (n : Int), v] w (SbEnd u true w)) (r : ByteArray) (hs : ⟨#[45]⟩ ++ u ++ ⟨#[109, 109]⟩ = r) : Calls Tryz.prog 13 #[va] w (FOk r w) := by
  obtain ⟨ba, Aa, na, ca, Ba, ma, da, rfl, _, _, _⟩ := ha.named
  have HT := Lib.hid ht
  clear ht
  have HN := Lib.hid hn
  clear hn
  have HY := Lib.hid hy
  clear hy
  have HL := Lib.hid hl
  clear hl
  have HR := Lib.hid hr
  clear hr
  have HV := Lib.hid hv
  clear hv
  have HS := Lib.hid hs
  clear hs
  have B0 := below_a1 w (.cells #[.bool ba, .slice Aa na ca, .slice Ba ma da] 27)
  have ha := ha.below B0
  have ka := (Bq.new w (w.heap.size) (by simp) (.bool ba) (.slice Aa na ca) (.slice Ba ma da))
  go_enter Tryz.func13, Tryz.ntmps13
  go_upto_region 1 with fail
  obtain ⟨wb, hW⟩ : ∃ W0, (w.alloc (.cells #[.bool ba, .slice Aa na ca, .slice Ba ma da] 27)) = W0 := ⟨_, rfl⟩
  rw [hW] at ha ka B0 ⊢
  clear hW
  have lka := ka.lt
  have hs : Bw (wb.heap.size) wb wb := ⟨Below.refl _ _, Nat.le_refl _⟩
  have HS : Hid (∀ w', Bw (wb.heap.size) wb w' → w'.cell? ⟨w.heap.size, 0, none⟩ = some (.bool ba) ∧ w'.cell? ⟨w.heap.size, 1, none⟩ = some (.slice Aa na ca) ∧ w'.cell? ⟨w.heap.size, 2, none⟩ = some (.slice Ba ma da)) := by
    intro w' hb
    have e0 := hb.bq ka (by omega)
    exact ⟨e0.c0, e0.c1, e0.c2⟩
  go_cut [4] (fun s4 wx => OneF (wb.heap.size) wb (x / 100) (k + max 2 2) (2 + max j 2) s4 wx)
  case first =>
    clear ka
    go_region_held3 (fun w' => w'.cell? ⟨w.heap.size, 0, none⟩ = some (.bool ba) ∧ w'.cell? ⟨w.heap.size, 1, none⟩ = some (.slice Aa na ca) ∧ w'.cell? ⟨w.heap.size, 2, none⟩ = some (.slice Ba ma da))
      (first | with_reducible exact HS.out _ hs | (with_reducible refine HS.out _ ?_; repeat (first | with_reducible exact hs | with_reducible refine Bw.drew ?_ | with_reducible refine Bw.alloc ?_ _ | with_reducible refine Bw.set ?_ _ (by first | omega | (simp; done) | (simp; omega)) _)))
      (first
        | (go_at_call 30; (first | (with_reducible refine (integral_q 100 (by decide) (by decide) _).mono ?_) | (with_reducible refine (integral_q 100 (by decide) (by decide) _).mono ?_)); rintro e w70 ⟨b5, A5, n5, c5, B5, m5, d5, rfl, z5, bb⟩; (first | have ha := ha.drew.below bb | have ha := (ha.below (below_alloc _ _)).drew.below bb); (first | have hs := hs.drew.up bb | have hs := (hs.alloc _).drew.up bb); have z_0 := hs.2; (first | (have p0_0 := ((Rq.new _ (wb.heap.size) (by first | rfl | simp))).drew.below bb) | skip); (try obtain ⟨p0_0_a, p0_0_b, p0_0_c⟩ := p0_0.apart); clear bb)
        | (go_at_call 29; (first | (with_reducible refine (qdiv_q ha z5.qv ?_ ?_ ?_ ?_ hund).mono ?_) | (with_reducible refine (qdiv_q (ha.below (below_alloc _ _)) (z5.below (below_alloc _ _)).qv ?_ ?_ ?_ ?_ hund).mono ?_)); omega; omega; omega; omega; rintro e w71 ⟨b12, A12, n12, c12, B12, m12, d12, rfl, z12, bb⟩; (first | have ha := ha.below bb | have ha := (ha.below (below_alloc _ _)).below bb); (first | have z5 := z5.below bb | have z5 := (z5.below (below_alloc _ _)).below bb); (first | have hs := hs.up bb | have hs := (hs.alloc _).up bb); have z_1 := hs.2; (try (first | have p0_0 := p0_0.below bb | have p0_0 := (p0_0.below (below_alloc _ _)).below bb)); (first | (have p1_0 := ((Rq.new _ (w70.heap.size) (by first | rfl | simp))).below bb) | skip); (try obtain ⟨p0_0_a, p0_0_b, p0_0_c⟩ := p0_0.apart); (try obtain ⟨p1_0_a, p1_0_b, p1_0_c⟩ := p1_0.apart); (try (have p0_0_0 := p0_0.1; have p0_0_1 := p0_0.2.1; have p0_0_2 := p0_0.2.2.1; have p0_0_3 := p0_0.2.2.2.1; have p0_0_4 := p0_0.2.2.2.2.1; have p0_0_5 := p0_0.2.2.2.2.2)); (try (have p1_0_0 := p1_0.1; have p1_0_1 := p1_0.2.1; have p1_0_2 := p1_0.2.2.1; have p1_0_3 := p1_0.2.2.2.1; have p1_0_4 := p1_0.2.2.2.2.1; have p1_0_5 := p1_0.2.2.2.2.2)); clear bb))
    all_goals
      go_wp2_with fail
      go_meet
      refine ⟨_, b12, A12, n12, c12, B12, m12, d12, rfl, ?_, ?_, ?_, ?_, ?_⟩
      all_goals
        repeat' (first | with_reducible assumption | (with_reducible exact Fq.new _ _ (by simp) _ _ _) | (with_reducible refine Rq.fqw ?_ _ _ _) | (with_reducible exact Bq.new _ _ (by simp) _ _ _) | (with_reducible exact Bx.new _ _ (by simp) _ _) | (with_reducible refine Bq.later ?_ _) | (with_reducible refine Bx.later ?_ _) | (with_reducible refine Rq.written ?_ _ _ _) | (with_reducible refine Rx.written ?_ _ _) | (with_reducible refine Bq.ret3 ?_ (by omega) _ _ _) | (with_reducible refine Bq.ret ?_ (by omega) _ _) | (with_reducible refine Bx.ret3 ?_ (by omega) _ _ _) | (with_reducible refine Bx.ret ?_ (by omega) _ _) | (with_reducible refine Qz.later ?_ _) | (with_reducible refine Qz.ret3 ?_ ?_ _ _ _) | (with_reducible refine Qz.ret ?_ ?_ _ _) | (with_reducible refine Qv.later ?_ _) | (with_reducible refine Qv.ret3 ?_ ?_ _ _ _) | (with_reducible refine Qv.ret ?_ ?_ _ _) | (with_reducible refine Iz.later ?_ _) | (with_reducible refine Iz.ret3 ?_ ?_ _ _ _) | (with_reducible refine Iz.ret ?_ ?_ _ _) | (with_reducible refine Rq.ret3 ?_ (by omega) _ _ _) | (with_reducible refine Rx.ret ?_ (by omega) _ _) | (with_reducible refine Bw.alloc ?_ _) | (with_reducible refine Bw.ret3 ?_ (by omega) _ _ _) | (with_reducible refine Bw.ret ?_ (by omega) _ _) | omega)
  case rest =>
    obtain ⟨g12, b12, A12, n12, c12, B12, m12, d12, rfl, k12, z12, l12, hw, fv⟩ := hcut
    have ka := hw.bq ka (by omega)
    have B0 := B0.trans (hw.1.mono B0.size)
    clear HS
    clear hw
    obtain rfl : b12 = true := z12.neg.trans HN.out
    have k12_0 := k12.c0
    have k12_1 := k12.c1
    have k12_2 := k12.c2
    go_wp2_with fail
    refine (qneg_q z12.qv (by omega) (by omega)).mono ?_
    clear k12_0 k12_1 k12_2
    rintro e w21 ⟨b20, A20, n20, c20, B20, m20, d20, rfl, z20, bb⟩
    have k12 := k12.below bb
    have z12 := z12.below bb
    have fv := fv.below bb
    have B0 := B0.trans (bb.mono B0.size)
    clear bb
    have k12_0 := k12.c0
    have k12_1 := k12.c1
    have k12_2 := k12.c2
    have f1 := fv.2.1
    have f2 := fv.2.2.1
    have f3 := fv.2.2.2
    go_wp2_with fail
    clear f1 f2 f3
    clear k12_0 k12_1 k12_2
    have z20 := z20.over k12 (.bool b20) (.slice A20 n20 c20) (.slice B20 m20 d20)
    have k12 := k12.over (.bool b20) (.slice A20 n20 c20) (.slice B20 m20 d20)
    have B0 := below_ret3 (g := g12) B0 (by omega) (.bool b20) (.slice A20 n20 c20) (.slice B20 m20 d20)
    clear fv
    rw [HY.out] at z20
    refine (qfloor_q z20.qv (by omega) (by omega)).mono ?_
    rintro e w31 ⟨v3, rfl, z3, bb⟩
    have k12 := k12.below bb
    have z20 := z20.below bb
    have B0 := B0.trans (bb.mono B0.size)
    clear bb
    rw [HL.out] at z3
    have k12_0 := k12.c0
    have k12_1 := k12.c1
    have k12_2 := k12.c2
    go_wp2_with fail
    refine (ismall_yes z3.iv (by omega) (by omega) (by omega)).mono ?_
    clear k12_0 k12_1 k12_2
    rintro e w32 ⟨rfl, bb⟩
    have k12 := k12.below bb
    have z20 := z20.below bb
    have z3 := z3.below bb
    have B0 := B0.trans (bb.mono B0.size)
    clear bb
    go_wp2_with fail
    have k12 := k12.drew
    have z20 := z20.drew
    have B0 := b_drew B0
    go_region_held3 (fun w' => w'.cell? ⟨g12, 0, none⟩ = some (.bool b20) ∧ w'.cell? ⟨g12, 1, none⟩ = some (.slice A20 n20 c20) ∧ w'.cell? ⟨g12, 2, none⟩ = some (.slice B20 m20 d20)) (first | with_reducible exact ⟨k12.c0, k12.c1, k12.c2⟩)
      (first
        | (go_at_call 30; (with_reducible refine (integral_q (n : Int) ?_ ?_ _).mono ?_); omega; omega; rintro e w41 ⟨b41, A41, n41, c41, B41, m41, d41, rfl, z41, bb⟩; have k12 := k12.below bb; have z20 := z20.below bb; have B0 := B0.trans (bb.mono B0.size); clear bb)
        | (go_at_call 21; (with_reducible refine (qsub_q z20.qv z41.qv ?_ ?_ ?_ ?_).mono ?_); omega; omega; omega; omega; rintro e w42 ⟨b42, A42, n42, c42, B42, m42, d42, rfl, z42, bb⟩; have k12 := k12.below bb; have z20 := z20.below bb; have z41 := z41.below bb; have B0 := B0.trans (bb.mono B0.size); clear bb; rw [HR.out] at z42)
        | (go_at_call 32; (with_reducible refine (HV.out _ _ _ _ z42 ?_ ?_ (HT.out.below B0)).mono ?_); omega; omega; rintro e w43 ⟨rfl, bb⟩; have k12 := k12.below bb; have z20 := z20.below bb; have z42 := z42.below bb; have B0 := B0.trans (bb.mono B0.size); clear bb))
    go_wp2
    go_ret2
    rw [← HS.out]
    exact ⟨rfl, B0⟩
theorem hundred_lt (x : Rat) : x / 100 < 0 ↔ x < 0 := by
  constructor <;> intro h <;> grind
theorem abs_pos (x : Rat) (h : ¬ x < 0) : x / 100 = absQ x / 100 := by simp only [absQ, h, if_false]
theorem abs_neg (x : Rat) (h : x < 0) : -(x / 100) = absQ x / 100 := by
  simp only [absQ, h, if_true]; grind
theorem fval_res (x : Rat) (y : Nat) (hy : y ≤ 9999999) (o : Option (List UInt8)) (ho : fVal y (restQ x).num.toNat (restQ x).den = o) (w : World) (v : Value) (k j : Nat) (hz : Qz w v (restQ x) k j) (hk : k ≤ 900) (hj : j ≤ 900) (ht : Tab w) : Calls Tryz.prog 32 #[.int .i64 (y : Int), v] w (SbEnd (ofL (o.getD [])) o.isSome w) := by
  have h := rest_parts x
  rw [← ho]
  exact fval_walk hz hk hj h.1 h.2.1 y hy ht
/-- What Format answers at any length. -/
theorem mfmt_err {w : World} {va : Value} {x : Rat} {k j : Nat} (ha : Qv w va x k j) (hk : k ≤ 60) (hj : j ≤ 60) (ht : Tab w) (h : fMea x = none) : Calls Tryz.prog 13 #[va] w (FErr w) := by
  have hf : fAbs x = none := by
    rcases h1 : fAbs x with _ | r
    · rfl
    · simp [fMea, h1] at h
  have hl := whole_int x
  simp only [fAbs] at hf
  by_cases h9 : 9999999 < whole x
  · by_cases hb : (9223372036854775807 : Int) < (absQ x / 100).floor
    · by_cases hx : x < 0
      · exact mfmt_n_big ha hk hj ht (decide_eq_true ((hundred_lt x).2 hx)) (abs_neg x hx) hb
      · exact mfmt_p_big ha hk hj ht (decide_eq_false (fun h => hx ((hundred_lt x).1 h))) (abs_pos x hx) hb
    · by_cases hx : x < 0
      · exact mfmt_n_over ha hk hj ht (decide_eq_true ((hundred_lt x).2 hx)) (abs_neg x hx) (whole x) hl (by omega) (by omega)
      · exact mfmt_p_over ha hk hj ht (decide_eq_false (fun h => hx ((hundred_lt x).1 h))) (abs_pos x hx) (whole x) hl (by omega) (by omega)
  · rw [if_neg h9] at hf
    have hv := fval_res x (whole x) (by omega) _ hf
    by_cases hx : x < 0
    · exact mfmt_n_none ha hk hj ht (decide_eq_true ((hundred_lt x).2 hx)) (abs_neg x hx) (whole x) hl (by omega) (by rw [restQ, Rat.intCast_natCast]) _ (by rw [ofL_size]; simp) hv
    · exact mfmt_p_none ha hk hj ht (decide_eq_false (fun h => hx ((hundred_lt x).1 h))) (abs_pos x hx) (whole x) hl (by omega) (by rw [restQ, Rat.intCast_natCast]) _ (by rw [ofL_size]; simp) hv
theorem mfmt_ok {w : World} {va : Value} {x : Rat} {k j : Nat} (ha : Qv w va x k j) (hk : k ≤ 60) (hj : j ≤ 60) (ht : Tab w) (r : List UInt8) (h : fMea x = some r) : Calls Tryz.prog 13 #[va] w (FOk (ofL r) w) := by
  have hl := whole_int x
  obtain ⟨e, hp, hd, _⟩ := rest_parts x
  simp only [fMea, fAbs] at h
  by_cases h9 : 9999999 < whole x
  · simp only [h9, if_true, Option.map_none] at h
    cases h
  · simp only [h9, if_false] at h
    rcases hf : fVal (whole x) (restQ x).num.toNat (restQ x).den with _ | u
    · rw [hf] at h; cases h
    · have hv := fval_res x (whole x) (by omega) _ hf
      have hu := (fVal_text _ _ _ u (by omega) hp hf).2.2.2
      rw [hf] at h
      simp only [Option.map_some, Option.some.injEq] at h
      by_cases hx : x < 0
      · refine mfmt_n_some ha hk hj ht (decide_eq_true ((hundred_lt x).2 hx)) (abs_neg x hx) (whole x) hl (by omega) (by rw [restQ, Rat.intCast_natCast]) (ofL u) (by rw [ofL_size]; omega) hv _ (bytes_ext ?_)
        rw [← h]
        simp [ofL_data, hx]
      · refine mfmt_p_some ha hk hj ht (decide_eq_false (fun h => hx ((hundred_lt x).1 h))) (abs_pos x hx) (whole x) hl (by omega) (by rw [restQ, Rat.intCast_natCast]) (ofL u) (by rw [ofL_size]; omega) hv _ (bytes_ext ?_)
        rw [← h]
        simp [ofL_data, hx]
end Go.Proofs.YtohlilgnognmgaaGreatDoor
