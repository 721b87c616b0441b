/-
  The walk of garmentlaw02.IntegerForms: it returns true, whatever the integers.
-/
import Derived.Test.YthcoemkbdllcfaaDoorLawA
import Derived.Test.YthcoemkbdllcfaaDoorLawF
import Derived.Deep.DeepCutAuto
namespace Go.Proofs.YthcoemkbdllcfaaDoor
open Go.RowKit
attribute [local go_sem ↓] Go.wp_at_zero Go.wp_at_succ
set_option linter.unusedVariables false

set_option maxRecDepth 20000 in
set_option maxHeartbeats 8000000 in
theorem integerForms_some {ba : Bool} {Aa : Option Addr} {na ca : Nat} {bb : Bool} {Ab : Option Addr} {nb cb : Nat} {a : Int} {b : Int} (w : World) {y : Nat} (ha : Iv w (.agg #[.bool ba, .slice Aa na ca]) a na)  (hb : Iv w (.agg #[.bool bb, .slice Ab nb cb]) b nb) (h1 : na ≤ 30) (h2 : nb ≤ 30) (h3 : y ≤ 5) (q r : Int) (ok : Bool) (hu : (b = 0 ∧ q = 0 ∧ r = 0 ∧ ok = false) ∨ (b ≠ 0 ∧ q = a / b ∧ r = a % b ∧ ok = true)) (ha0 : a ≠ 0) (ht : Tab w) :
    Calls Tryd.prog 11 #[.agg #[.bool ba, .slice Aa na ca], .agg #[.bool bb, .slice Ab nb cb], .int .u8 (y : Int)] w (BoolEnd true w) := by
  have HT := Lib.hid ht
  clear ht
  have HU := Lib.hid hu
  clear hu
  obtain ⟨o, ho, hoe⟩ : ∃ o, o ≠ 0 ∧ cmpZ a 0 = o := ⟨_, by have := cmpZ_cases a 0; omega, rfl⟩
  have HO := Lib.hid hoe
  have hob : (o == 0) = false := by simpa using ho
  clear ho hoe ha0
  have haa : cmpZ a a = 0 := by have := cmpZ_cases a a; omega
  have HAA := Lib.hid haa
  clear haa
  obtain ⟨t, htx⟩ : ∃ t : ByteArray, t.data.toList = zdec a := ⟨⟨(zdec a).toArray⟩, rfl⟩
  have HX := Lib.hid htx
  clear htx
  have B0 := below_a2 w (.cells #[.bool ba, .slice Aa na ca] 25) (.cells #[.bool bb, .slice Ab nb cb] 25)
  have ha := ha.below B0
  have hb := hb.below B0
  have ka := ((Bx.new w (w.heap.size) (by simp) (.bool ba) (.slice Aa na ca)).below (below_alloc (w.alloc (.cells #[.bool ba, .slice Aa na ca] 25)) (.cells #[.bool bb, .slice Ab nb cb] 25)))
  have kb := (Bx.new (w.alloc (.cells #[.bool ba, .slice Aa na ca] 25)) (w.heap.size + 1) (by simp) (.bool bb) (.slice Ab nb cb))
  go_enter Tryd.func11, Tryd.ntmps11
  have ka0 := ka.1
  have ka1 := ka.2
  have kb0 := kb.1
  have kb1 := kb.2
  go_wp2_with fail
  refine (rshort_yes ba Aa na ca _ _ (by omega)).mono ?_
  clear ka0 ka1 kb0 kb1
  rintro e w1 ⟨rfl, bb⟩
  have ha := ha.below bb
  have hb := hb.below bb
  have ka := ka.below bb
  have kb := kb.below bb
  have B0 := B0.trans (bb.mono B0.size)
  clear bb
  have ka0 := ka.1
  have ka1 := ka.2
  have kb0 := kb.1
  have kb1 := kb.2
  go_wp2_with fail
  refine (rshort_yes bb Ab nb cb _ _ (by omega)).mono ?_
  clear ka0 ka1 kb0 kb1
  rintro e w2 ⟨rfl, bb⟩
  have ha := ha.below bb
  have hb := hb.below bb
  have ka := ka.below bb
  have kb := kb.below bb
  have B0 := B0.trans (bb.mono B0.size)
  clear bb
  have la := ka.lt
  have lb := kb.lt
  obtain ⟨ba', Aa', na', ca', m, eag, hm, hz⟩ := id ha
  simp only [Value.agg.injEq, Array.mk.injEq, List.cons.injEq, Value.bool.injEq, Value.slice.injEq, and_true] at eag
  obtain ⟨rfl, rfl, rfl, rfl⟩ := eag
  obtain ⟨l, hrd, hv, hlk⟩ := hm
  have hll := hrd.addr
  have hL := hrd.lim
  have HV := Lib.hid hv
  have HZ := Lib.hid hz
  have HLL := Lib.hid hll
  have HLim := Lib.hid hL
  clear hv hz hll hL hlk
  go_upto_region 3 with fail
  have hs : Bw w2.heap.size w2 w2 := ⟨Below.refl _ _, Nat.le_refl _⟩
  have HS : Hid (∀ w', Bw w2.heap.size w2 w' → w'.cell? ⟨w.heap.size, 0, none⟩ = some (.bool ba) ∧ w'.cell? ⟨w.heap.size, 1, none⟩ = some (.slice Aa na ca)) := by
    intro w' hb
    have e := hb.bx ka la
    exact ⟨e.1, e.2⟩
  go_cut [7] (fun s7 wx => Cz w2 ba (na + y) m s7 wx)
  case first =>
    have hyi : (0 : Int) ≤ (y : Int) := by omega
    have hy5 : (y : Int) ≤ 5 := by omega
    have hna : na ≤ 1000 := by omega
    have hyk : y ≤ 1000 := by omega
    have hpos : (0 : Int) ≤ (y : Int) := by omega
    have hwy : IntKind.i64.wrap (y : Int) = (y : Int) := by rw [IntKind.wrap_i64]; omega
    clear ka kb
    go_region_held3 (fun w' => w'.cell? ⟨w.heap.size, 0, none⟩ = some (.bool ba) ∧ w'.cell? ⟨w.heap.size, 1, none⟩ = some (.slice Aa na ca))
      (first | exact HS.out _ hs | (refine HS.out _ ?_; repeat (first | exact hs | refine Bw.drew ?_ | refine Bw.alloc ?_ _ | refine Bw.set ?_ _ (by first | omega | (simp; done) | (simp; omega)) _)))
      (first
        | (((first | (refine step_app1 ?_ (.tmp 31) (.tmp 33) ?_ w2.heap.size Aa na ca l ?_ ?_ ?_ ?_ ?_ ?_; rfl; rfl; rfl; rfl) | (refine step_app1 ?_ (.tmp 31) (.tmp 33) ?_ (w2.heap.size + 1) Aa na ca l ?_ ?_ ?_ ?_ ?_ ?_; rfl; rfl; rfl; rfl))); exact hna; (first | with_reducible exact (own_empty w2 _ rfl).drew | with_reducible exact ((own_empty w2 _ rfl).alloc _).drew | with_reducible exact (own_empty (w2.alloc _) _ (by simp)).drew); (first | with_reducible exact (hrd.below (below_alloc w2 _)).drew | with_reducible exact ((hrd.below (below_alloc w2 _)).below (below_alloc _ _)).drew); intro g1 cap1 w5 ho1 hn1 hm1 bb hg1; (first | with_reducible have hs := ((hs.alloc (.cells #[] 46)).drew).up bb | with_reducible have hs := (((hs.alloc (.cells #[] 46)).alloc (.cells #[.bool false, .slice none 0 0] 25)).drew).up bb | with_reducible have hs := (((hs.alloc (.cells #[.bool false, .slice none 0 0] 25)).alloc (.cells #[] 46)).drew).up bb); have g1b : w2.heap.size ≤ g1 := (by (simp at hg1; omega)); (first | (with_reducible have p1 := ((Rx.new (w2.alloc (.cells #[] 46)) (w2.heap.size + 1) (by simp)).drew).below bb; have hpg : w2.heap.size + 1 ≠ g1 := by (simp at hg1; omega)) | (with_reducible have p1 := (((Rx.new w2 w2.heap.size rfl).below (below_alloc (w2.alloc (.cells #[.bool false, .slice none 0 0] 25)) (.cells #[] 46))).drew).below bb; have hpg : w2.heap.size ≠ g1 := by (simp at hg1; omega)) | skip); have s5 := hs.sz; have HG := Lib.hid hg1; clear bb hg1)
        | (refine step_app2 ?_ (.tmp 34) (.tmp 36) ?_ g1 na cap1 y l ?_ ?_ HLL.out HLim.out hn1 hm1 hna hyk ?_ ?_; rfl; rfl; rfl; rfl; (first | with_reducible exact ho1 | with_reducible exact ho1.alloc _); intro A9 c9 w6 hm2 hg2; have hlt5 := ho1.lt; have H5 := Lib.hid hlt5; clear hlt5; (first | with_reducible have hs := hs.grown hg2 g1b | with_reducible have hs := (hs.alloc (.cells #[.bool false, .slice none 0 0] 25)).grown hg2 g1b); (first | with_reducible have p1 := p1.grown hg2 hpg | with_reducible have p1 := (Rx.new w5 w5.heap.size rfl).grown hg2 (by have := H5.out; omega) | skip); have s6 := hs.sz; rw [HV.out] at hm2; (try (have f1 := p1.1; obtain ⟨f2, f3, f4⟩ := p1.apart; have f5 := p1.2.1; have f6 := p1.2.2.1; have f7 := p1.2.2.2)); clear hg2))
    all_goals
      go_wp2_with fail
      go_meet
      refine ⟨_, A9, c9, rfl, ?_, ?_, ?_, ?_, ?_⟩
      all_goals
        repeat' (first | with_reducible assumption | (with_reducible exact Bx.new _ _ (by simp) _ _) | (with_reducible exact Ux.new _ _ (by simp) _ _) | (with_reducible refine Rx.written ?_ _ _) | (with_reducible refine Rx.ux ?_ _ _) | (with_reducible refine Nm.later ?_ _) | (with_reducible refine Nm.ret ?_ ?_ _ _) | (with_reducible refine Bw.alloc ?_ _) | (with_reducible refine Bw.ret ?_ (by omega) _ _) | omega)
  case rest =>
    obtain ⟨gz, A9, c9, rfl, kw, ux, hgz, hmx, hw⟩ := hcut
    have ka := hw.bx ka la
    have kb := hw.bx kb lb
    have ha := ha.below hw.1
    have hb := hb.below hw.1
    have B0 := B0.trans (hw.1.mono (by omega))
    have lgz := kw.lt
    have hgn : gz ≠ w.heap.size := by omega
    have hgm : gz ≠ w.heap.size + 1 := by omega
    have hxy : Iv wc (.agg #[.bool ba, .slice A9 (na + y) c9]) a (na + y) := ⟨_, _, _, _, m, rfl, hmx, HZ.out⟩
    clear hw hmx hrd HS
    go_wp2_with fail
    have ha := ha.drew
    have hb := hb.drew
    have hxy := hxy.drew
    have ka := ka.drew
    have kb := kb.drew
    have kw := kw.drew
    have ux := ux.drew
    have B0 := b_drew B0
    go_region_held3 (fun w' => w'.cell? ⟨w.heap.size, 0, none⟩ = some (.bool ba) ∧ w'.cell? ⟨w.heap.size, 1, none⟩ = some (.slice Aa na ca) ∧ w'.cell? ⟨w.heap.size + 1, 0, none⟩ = some (.bool bb) ∧ w'.cell? ⟨w.heap.size + 1, 1, none⟩ = some (.slice Ab nb cb) ∧ w'.cell? ⟨gz, 0, none⟩ = some (.bool ba) ∧ w'.cell? ⟨gz, 1, none⟩ = some (.slice A9 (na + y) c9)) (first | exact ⟨ka.1, ka.2, kb.1, kb.2, kw.1, kw.2⟩)
      (first
        | (go_at_call 36; (with_reducible refine (iof_i 0 (by decide) (by decide) _).mono ?_); rintro e w21 ⟨v1, rfl, z1, bb⟩; have ha := ha.below bb; have hb := hb.below bb; have hxy := hxy.below bb; have ka := ka.below bb; have kb := kb.below bb; have kw := kw.below bb; have ux := ux.below bb; have B0 := B0.trans (bb.mono B0.size); clear bb)
        | (go_at_call 17; (with_reducible refine (icmp_i ha z1.iv _ HO.out).mono ?_); rintro e w22 ⟨rfl, bb⟩; have ha := ha.below bb; have hb := hb.below bb; have hxy := hxy.below bb; have ka := ka.below bb; have kb := kb.below bb; have kw := kw.below bb; have ux := ux.below bb; have z1 := z1.below bb; have B0 := B0.trans (bb.mono B0.size); clear bb))
    have ka0 := ka.1
    have ka1 := ka.2
    have kb0 := kb.1
    have kb1 := kb.2
    have kw0 := kw.1
    have kw1 := kw.2
    go_wp2_with fail
    refine (idiv_u ha hb (by omega) (by omega) q r ok HU.out).mono ?_
    clear ka0 ka1 kb0 kb1 kw0 kw1
    rintro e w31 ⟨vq, vr, rfl, zq, zr, bb⟩
    have ha := ha.below bb
    have hb := hb.below bb
    have hxy := hxy.below bb
    have ka := ka.below bb
    have kb := kb.below bb
    have kw := kw.below bb
    have B0 := B0.trans (bb.mono B0.size)
    clear bb
    obtain ⟨bzq, Azq, nzq, czq, rfl, zq⟩ := zq.cells
    obtain ⟨bzr, Azr, nzr, czr, rfl, zr⟩ := zr.cells
    have ha := ha.below (below_alloc w31 (.cells #[.bool bzq, .slice Azq nzq czq] 25))
    have hb := hb.below (below_alloc w31 (.cells #[.bool bzq, .slice Azq nzq czq] 25))
    have hxy := hxy.below (below_alloc w31 (.cells #[.bool bzq, .slice Azq nzq czq] 25))
    have ka := ka.below (below_alloc w31 (.cells #[.bool bzq, .slice Azq nzq czq] 25))
    have kb := kb.below (below_alloc w31 (.cells #[.bool bzq, .slice Azq nzq czq] 25))
    have kw := kw.below (below_alloc w31 (.cells #[.bool bzq, .slice Azq nzq czq] 25))
    have zq := zq.below (below_alloc w31 (.cells #[.bool bzq, .slice Azq nzq czq] 25))
    have zr := zr.below (below_alloc w31 (.cells #[.bool bzq, .slice Azq nzq czq] 25))
    have kq := Bx.new w31 (w31.heap.size) (by simp) (.bool bzq) (.slice Azq nzq czq)
    have B0 := B0.trans ((below_alloc w31 (.cells #[.bool bzq, .slice Azq nzq czq] 25)).mono B0.size)
    have ha := ha.below (below_alloc (w31.alloc (.cells #[.bool bzq, .slice Azq nzq czq] 25)) (.cells #[.bool bzr, .slice Azr nzr czr] 25))
    have hb := hb.below (below_alloc (w31.alloc (.cells #[.bool bzq, .slice Azq nzq czq] 25)) (.cells #[.bool bzr, .slice Azr nzr czr] 25))
    have hxy := hxy.below (below_alloc (w31.alloc (.cells #[.bool bzq, .slice Azq nzq czq] 25)) (.cells #[.bool bzr, .slice Azr nzr czr] 25))
    have ka := ka.below (below_alloc (w31.alloc (.cells #[.bool bzq, .slice Azq nzq czq] 25)) (.cells #[.bool bzr, .slice Azr nzr czr] 25))
    have kb := kb.below (below_alloc (w31.alloc (.cells #[.bool bzq, .slice Azq nzq czq] 25)) (.cells #[.bool bzr, .slice Azr nzr czr] 25))
    have kw := kw.below (below_alloc (w31.alloc (.cells #[.bool bzq, .slice Azq nzq czq] 25)) (.cells #[.bool bzr, .slice Azr nzr czr] 25))
    have zq := zq.below (below_alloc (w31.alloc (.cells #[.bool bzq, .slice Azq nzq czq] 25)) (.cells #[.bool bzr, .slice Azr nzr czr] 25))
    have zr := zr.below (below_alloc (w31.alloc (.cells #[.bool bzq, .slice Azq nzq czq] 25)) (.cells #[.bool bzr, .slice Azr nzr czr] 25))
    have kq := kq.below (below_alloc (w31.alloc (.cells #[.bool bzq, .slice Azq nzq czq] 25)) (.cells #[.bool bzr, .slice Azr nzr czr] 25))
    have kr := Bx.new (w31.alloc (.cells #[.bool bzq, .slice Azq nzq czq] 25)) (w31.heap.size + 1) (by simp) (.bool bzr) (.slice Azr nzr czr)
    have B0 := B0.trans ((below_alloc (w31.alloc (.cells #[.bool bzq, .slice Azq nzq czq] 25)) (.cells #[.bool bzr, .slice Azr nzr czr] 25)).mono B0.size)
    have ka0 := ka.1
    have ka1 := ka.2
    have kb0 := kb.1
    have kb1 := kb.2
    have kw0 := kw.1
    have kw1 := kw.2
    have kq0 := kq.1
    have kq1 := kq.2
    have kr0 := kr.1
    have kr1 := kr.2
    go_wp2_with fail
    refine (idiv_u hxy hb (by omega) (by omega) q r ok HU.out).mono ?_
    clear ka0 ka1 kb0 kb1 kw0 kw1 kq0 kq1 kr0 kr1
    rintro e w32 ⟨vs, vt, rfl, zs, zt, bb⟩
    have ha := ha.below bb
    have hb := hb.below bb
    have hxy := hxy.below bb
    have ka := ka.below bb
    have kb := kb.below bb
    have kw := kw.below bb
    have zq := zq.below bb
    have zr := zr.below bb
    have kq := kq.below bb
    have kr := kr.below bb
    have B0 := B0.trans (bb.mono B0.size)
    clear bb
    obtain ⟨bzs, Azs, nzs, czs, rfl, zs⟩ := zs.cells
    obtain ⟨bzt, Azt, nzt, czt, rfl, zt⟩ := zt.cells
    have ha := ha.below (below_alloc w32 (.cells #[.bool bzs, .slice Azs nzs czs] 25))
    have hb := hb.below (below_alloc w32 (.cells #[.bool bzs, .slice Azs nzs czs] 25))
    have hxy := hxy.below (below_alloc w32 (.cells #[.bool bzs, .slice Azs nzs czs] 25))
    have ka := ka.below (below_alloc w32 (.cells #[.bool bzs, .slice Azs nzs czs] 25))
    have kb := kb.below (below_alloc w32 (.cells #[.bool bzs, .slice Azs nzs czs] 25))
    have kw := kw.below (below_alloc w32 (.cells #[.bool bzs, .slice Azs nzs czs] 25))
    have zq := zq.below (below_alloc w32 (.cells #[.bool bzs, .slice Azs nzs czs] 25))
    have zr := zr.below (below_alloc w32 (.cells #[.bool bzs, .slice Azs nzs czs] 25))
    have kq := kq.below (below_alloc w32 (.cells #[.bool bzs, .slice Azs nzs czs] 25))
    have kr := kr.below (below_alloc w32 (.cells #[.bool bzs, .slice Azs nzs czs] 25))
    have zs := zs.below (below_alloc w32 (.cells #[.bool bzs, .slice Azs nzs czs] 25))
    have zt := zt.below (below_alloc w32 (.cells #[.bool bzs, .slice Azs nzs czs] 25))
    have ks := Bx.new w32 (w32.heap.size) (by simp) (.bool bzs) (.slice Azs nzs czs)
    have B0 := B0.trans ((below_alloc w32 (.cells #[.bool bzs, .slice Azs nzs czs] 25)).mono B0.size)
    have ha := ha.below (below_alloc (w32.alloc (.cells #[.bool bzs, .slice Azs nzs czs] 25)) (.cells #[.bool bzt, .slice Azt nzt czt] 25))
    have hb := hb.below (below_alloc (w32.alloc (.cells #[.bool bzs, .slice Azs nzs czs] 25)) (.cells #[.bool bzt, .slice Azt nzt czt] 25))
    have hxy := hxy.below (below_alloc (w32.alloc (.cells #[.bool bzs, .slice Azs nzs czs] 25)) (.cells #[.bool bzt, .slice Azt nzt czt] 25))
    have ka := ka.below (below_alloc (w32.alloc (.cells #[.bool bzs, .slice Azs nzs czs] 25)) (.cells #[.bool bzt, .slice Azt nzt czt] 25))
    have kb := kb.below (below_alloc (w32.alloc (.cells #[.bool bzs, .slice Azs nzs czs] 25)) (.cells #[.bool bzt, .slice Azt nzt czt] 25))
    have kw := kw.below (below_alloc (w32.alloc (.cells #[.bool bzs, .slice Azs nzs czs] 25)) (.cells #[.bool bzt, .slice Azt nzt czt] 25))
    have zq := zq.below (below_alloc (w32.alloc (.cells #[.bool bzs, .slice Azs nzs czs] 25)) (.cells #[.bool bzt, .slice Azt nzt czt] 25))
    have zr := zr.below (below_alloc (w32.alloc (.cells #[.bool bzs, .slice Azs nzs czs] 25)) (.cells #[.bool bzt, .slice Azt nzt czt] 25))
    have kq := kq.below (below_alloc (w32.alloc (.cells #[.bool bzs, .slice Azs nzs czs] 25)) (.cells #[.bool bzt, .slice Azt nzt czt] 25))
    have kr := kr.below (below_alloc (w32.alloc (.cells #[.bool bzs, .slice Azs nzs czs] 25)) (.cells #[.bool bzt, .slice Azt nzt czt] 25))
    have zs := zs.below (below_alloc (w32.alloc (.cells #[.bool bzs, .slice Azs nzs czs] 25)) (.cells #[.bool bzt, .slice Azt nzt czt] 25))
    have zt := zt.below (below_alloc (w32.alloc (.cells #[.bool bzs, .slice Azs nzs czs] 25)) (.cells #[.bool bzt, .slice Azt nzt czt] 25))
    have ks := ks.below (below_alloc (w32.alloc (.cells #[.bool bzs, .slice Azs nzs czs] 25)) (.cells #[.bool bzt, .slice Azt nzt czt] 25))
    have kt := Bx.new (w32.alloc (.cells #[.bool bzs, .slice Azs nzs czs] 25)) (w32.heap.size + 1) (by simp) (.bool bzt) (.slice Azt nzt czt)
    have B0 := B0.trans ((below_alloc (w32.alloc (.cells #[.bool bzs, .slice Azs nzs czs] 25)) (.cells #[.bool bzt, .slice Azt nzt czt] 25)).mono B0.size)
    have hs : ((w32.alloc (.cells #[.bool bzs, .slice Azs nzs czs] 25)).alloc (.cells #[.bool bzt, .slice Azt nzt czt] 25)).heap.size ≤ ((w32.alloc (.cells #[.bool bzs, .slice Azs nzs czs] 25)).alloc (.cells #[.bool bzt, .slice Azt nzt czt] 25)).heap.size := Nat.le_refl _
    go_upto_region 8 with fail
    obtain ⟨W8, hW⟩ : ∃ W0, ((w32.alloc (.cells #[.bool bzs, .slice Azs nzs czs] 25)).alloc (.cells #[.bool bzt, .slice Azt nzt czt] 25)) = W0 := ⟨_, rfl⟩
    rw [hW] at ha hb hxy ka kb kw zq zr kq kr zs zt ks kt hs B0 ⊢
    clear hW
    have lka := ka.lt
    have lkb := kb.lt
    have lkw := kw.lt
    have lkq := kq.lt
    have lkr := kr.lt
    have lks := ks.lt
    have lkt := kt.lt
    have s0 := hs
    have hs : Bw (W8.heap.size) W8 W8 := ⟨Below.refl _ _, hs⟩
    have HS : Hid (∀ w', Bw (W8.heap.size) W8 w' → w'.cell? ⟨w.heap.size, 0, none⟩ = some (.bool ba) ∧ w'.cell? ⟨w.heap.size, 1, none⟩ = some (.slice Aa na ca) ∧ w'.cell? ⟨w.heap.size + 1, 0, none⟩ = some (.bool bb) ∧ w'.cell? ⟨w.heap.size + 1, 1, none⟩ = some (.slice Ab nb cb) ∧ w'.cell? ⟨gz, 0, none⟩ = some (.bool ba) ∧ w'.cell? ⟨gz, 1, none⟩ = some (.slice A9 (na + y) c9) ∧ w'.cell? ⟨w31.heap.size, 0, none⟩ = some (.bool bzq) ∧ w'.cell? ⟨w31.heap.size, 1, none⟩ = some (.slice Azq nzq czq) ∧ w'.cell? ⟨w31.heap.size + 1, 0, none⟩ = some (.bool bzr) ∧ w'.cell? ⟨w31.heap.size + 1, 1, none⟩ = some (.slice Azr nzr czr) ∧ w'.cell? ⟨w32.heap.size, 0, none⟩ = some (.bool bzs) ∧ w'.cell? ⟨w32.heap.size, 1, none⟩ = some (.slice Azs nzs czs) ∧ w'.cell? ⟨w32.heap.size + 1, 0, none⟩ = some (.bool bzt) ∧ w'.cell? ⟨w32.heap.size + 1, 1, none⟩ = some (.slice Azt nzt czt)) := by
      intro w' hb
      have e0 := hb.bx ka (by omega)
      have e1 := hb.bx kb (by omega)
      have e2 := hb.bx kw (by omega)
      have e3 := hb.bx kq (by omega)
      have e4 := hb.bx kr (by omega)
      have e5 := hb.bx ks (by omega)
      have e6 := hb.bx kt (by omega)
      exact ⟨e0.1, e0.2, e1.1, e1.2, e2.1, e2.2, e3.1, e3.2, e4.1, e4.2, e5.1, e5.2, e6.1, e6.2⟩
    go_cut [14, 15] (fun s5 s6 wx => Two (W8.heap.size) W8 (a + b) (a * b) (max na nb + 1) (na + nb) s5 s6 wx ∧ Iv wx (.agg #[.bool ba, .slice Aa na ca]) a na ∧ Iv wx (.agg #[.bool bb, .slice Ab nb cb]) b nb ∧ Iv wx (.agg #[.bool ba, .slice A9 (na + y) c9]) a (na + y) ∧ Iz wx (.agg #[.bool bzq, .slice Azq nzq czq]) q (na + 3) ∧ Iz wx (.agg #[.bool bzr, .slice Azr nzr czr]) r nb ∧ Iz wx (.agg #[.bool bzs, .slice Azs nzs czs]) q (na + y + 3) ∧ Iz wx (.agg #[.bool bzt, .slice Azt nzt czt]) r nb)
    case first =>
      clear ka kb kw kq kr ks kt
      go_region_held3 (fun w' => w'.cell? ⟨w.heap.size, 0, none⟩ = some (.bool ba) ∧ w'.cell? ⟨w.heap.size, 1, none⟩ = some (.slice Aa na ca) ∧ w'.cell? ⟨w.heap.size + 1, 0, none⟩ = some (.bool bb) ∧ w'.cell? ⟨w.heap.size + 1, 1, none⟩ = some (.slice Ab nb cb) ∧ w'.cell? ⟨gz, 0, none⟩ = some (.bool ba) ∧ w'.cell? ⟨gz, 1, none⟩ = some (.slice A9 (na + y) c9) ∧ w'.cell? ⟨w31.heap.size, 0, none⟩ = some (.bool bzq) ∧ w'.cell? ⟨w31.heap.size, 1, none⟩ = some (.slice Azq nzq czq) ∧ w'.cell? ⟨w31.heap.size + 1, 0, none⟩ = some (.bool bzr) ∧ w'.cell? ⟨w31.heap.size + 1, 1, none⟩ = some (.slice Azr nzr czr) ∧ w'.cell? ⟨w32.heap.size, 0, none⟩ = some (.bool bzs) ∧ w'.cell? ⟨w32.heap.size, 1, none⟩ = some (.slice Azs nzs czs) ∧ w'.cell? ⟨w32.heap.size + 1, 0, none⟩ = some (.bool bzt) ∧ w'.cell? ⟨w32.heap.size + 1, 1, none⟩ = some (.slice Azt nzt czt))
        (first | exact HS.out _ hs | (refine HS.out _ ?_; repeat (first | exact hs | refine Bw.drew ?_ | exact hs.up ‹_› | refine Bw.alloc ?_ _ | refine Bw.set ?_ _ (by first | omega | (simp; done) | (simp; omega)) _)))
        (first
          | (go_at_call 21; (first | (with_reducible refine (iadd_i ha.drew hb.drew ?_ ?_).mono ?_) | (with_reducible refine (iadd_i (ha.below (below_alloc _ _)).drew (hb.below (below_alloc _ _)).drew ?_ ?_).mono ?_) | (with_reducible refine (iadd_i ((ha.below (below_alloc _ _)).below (below_alloc _ _)).drew ((hb.below (below_alloc _ _)).below (below_alloc _ _)).drew ?_ ?_).mono ?_)); omega; omega; rintro e w1 ⟨v1, rfl, z1, bb⟩; (first | have ha := ha.drew.below bb | have ha := (ha.below (below_alloc _ _)).drew.below bb | have ha := ((ha.below (below_alloc _ _)).below (below_alloc _ _)).drew.below bb); (first | have hb := hb.drew.below bb | have hb := (hb.below (below_alloc _ _)).drew.below bb | have hb := ((hb.below (below_alloc _ _)).below (below_alloc _ _)).drew.below bb); (first | have hxy := hxy.drew.below bb | have hxy := (hxy.below (below_alloc _ _)).drew.below bb | have hxy := ((hxy.below (below_alloc _ _)).below (below_alloc _ _)).drew.below bb); (first | have zq := zq.drew.below bb | have zq := (zq.below (below_alloc _ _)).drew.below bb | have zq := ((zq.below (below_alloc _ _)).below (below_alloc _ _)).drew.below bb); (first | have zr := zr.drew.below bb | have zr := (zr.below (below_alloc _ _)).drew.below bb | have zr := ((zr.below (below_alloc _ _)).below (below_alloc _ _)).drew.below bb); (first | have zs := zs.drew.below bb | have zs := (zs.below (below_alloc _ _)).drew.below bb | have zs := ((zs.below (below_alloc _ _)).below (below_alloc _ _)).drew.below bb); (first | have zt := zt.drew.below bb | have zt := (zt.below (below_alloc _ _)).drew.below bb | have zt := ((zt.below (below_alloc _ _)).below (below_alloc _ _)).drew.below bb); (first | have hs := hs.drew.up bb | have hs := (hs.alloc _).drew.up bb | have hs := ((hs.alloc _).alloc _).drew.up bb); have s1 := hs.2; (first | (have p1 := ((Rx.new _ W8.heap.size (by rfl)).below (below_alloc _ _)).drew.below bb; have p2 := (Rx.new _ (W8.heap.size + 1) (by simp)).drew.below bb) | have p1 := (Rx.new _ W8.heap.size (by rfl)).drew.below bb | skip); (try obtain ⟨g1, g2, g3⟩ := p1.apart); (try obtain ⟨g4, g5, g6⟩ := p2.apart); clear bb)
          | (go_at_call 27; (first | (with_reducible refine (imul_i ha hb ?_ ?_).mono ?_) | (with_reducible refine (imul_i (ha.below (below_alloc _ _)) (hb.below (below_alloc _ _)) ?_ ?_).mono ?_) | (with_reducible refine (imul_i ((ha.below (below_alloc _ _)).below (below_alloc _ _)) ((hb.below (below_alloc _ _)).below (below_alloc _ _)) ?_ ?_).mono ?_)); omega; omega; rintro e w2 ⟨v2, rfl, z2, bb⟩; (first | have z1 := z1.below bb | have z1 := (z1.below (below_alloc _ _)).below bb | have z1 := ((z1.below (below_alloc _ _)).below (below_alloc _ _)).below bb); (first | have ha := ha.below bb | have ha := (ha.below (below_alloc _ _)).below bb | have ha := ((ha.below (below_alloc _ _)).below (below_alloc _ _)).below bb); (first | have hb := hb.below bb | have hb := (hb.below (below_alloc _ _)).below bb | have hb := ((hb.below (below_alloc _ _)).below (below_alloc _ _)).below bb); (first | have hxy := hxy.below bb | have hxy := (hxy.below (below_alloc _ _)).below bb | have hxy := ((hxy.below (below_alloc _ _)).below (below_alloc _ _)).below bb); (first | have zq := zq.below bb | have zq := (zq.below (below_alloc _ _)).below bb | have zq := ((zq.below (below_alloc _ _)).below (below_alloc _ _)).below bb); (first | have zr := zr.below bb | have zr := (zr.below (below_alloc _ _)).below bb | have zr := ((zr.below (below_alloc _ _)).below (below_alloc _ _)).below bb); (first | have zs := zs.below bb | have zs := (zs.below (below_alloc _ _)).below bb | have zs := ((zs.below (below_alloc _ _)).below (below_alloc _ _)).below bb); (first | have zt := zt.below bb | have zt := (zt.below (below_alloc _ _)).below bb | have zt := ((zt.below (below_alloc _ _)).below (below_alloc _ _)).below bb); (first | have hs := hs.up bb | have hs := (hs.alloc _).up bb | have hs := ((hs.alloc _).alloc _).up bb); have s2 := hs.2; (try (first | have p1 := p1.below bb | have p1 := (p1.below (below_alloc _ _)).below bb | have p1 := ((p1.below (below_alloc _ _)).below (below_alloc _ _)).below bb)); (try (first | have p2 := p2.below bb | have p2 := (p2.below (below_alloc _ _)).below bb | have p2 := ((p2.below (below_alloc _ _)).below (below_alloc _ _)).below bb)); (first | (have q1 := ((Rx.new _ w1.heap.size (by rfl)).below (below_alloc _ _)).below bb; have q2 := (Rx.new _ (w1.heap.size + 1) (by simp)).below bb) | have q1 := (Rx.new _ w1.heap.size (by rfl)).below bb | skip); (try (have f1h := p1.1; obtain ⟨f1e, f1f, f1g⟩ := p1.apart; have f1i := p1.2.1; have f1j := p1.2.2.1; have f1k := p1.2.2.2)); (try (have f2h := p2.1; obtain ⟨f2e, f2f, f2g⟩ := p2.apart; have f2i := p2.2.1; have f2j := p2.2.2.1; have f2k := p2.2.2.2)); (try (have d1h := q1.1; obtain ⟨d1e, d1f, d1g⟩ := q1.apart; have d1i := q1.2.1; have d1j := q1.2.2.1; have d1k := q1.2.2.2)); (try (have d2h := q2.1; obtain ⟨d2e, d2f, d2g⟩ := q2.apart; have d2i := q2.2.1; have d2j := q2.2.2.1; have d2k := q2.2.2.2)); obtain ⟨b1, A1, n1, c1, rfl, z1⟩ := z1.cells; obtain ⟨b2, A2, n2, c2, rfl, z2⟩ := z2.cells; clear bb))
      all_goals
        go_wp2_with fail
        go_meet
        refine ⟨⟨_, _, b1, A1, n1, c1, b2, A2, n2, c2, rfl, rfl, ?_, ?_, ?_, ?_, ?_⟩, ?_, ?_, ?_, ?_, ?_, ?_, ?_⟩
        all_goals
          repeat' (first | with_reducible assumption | (with_reducible exact Bx.new _ _ (by simp) _ _) | (with_reducible refine Bx.later ?_ _) | (with_reducible refine Rx.written ?_ _ _) | (with_reducible refine Bx.ret ?_ (by omega) _ _) | (with_reducible refine Iz.later ?_ _) | (with_reducible refine Iz.ret ?_ ?_ _ _) | (with_reducible refine Iv.later ?_ _) | (with_reducible refine Iv.ret ?_ ?_ _ _) | (with_reducible refine Rx.ret ?_ (by omega) _ _) | (with_reducible refine Bw.alloc ?_ _) | (with_reducible refine Bw.ret ?_ (by omega) _ _))
    case rest =>
      obtain ⟨⟨gx, gy, bx, Ax, nx, cx, by', Ay, ny, cy, rfl, rfl, kx, ky, zx, zy, hw⟩, ha, hb, hxy, zq, zr, zs, zt⟩ := hcut
      have ka := hw.bx ka (by omega)
      have kb := hw.bx kb (by omega)
      have kw := hw.bx kw (by omega)
      have kq := hw.bx kq (by omega)
      have kr := hw.bx kr (by omega)
      have ks := hw.bx ks (by omega)
      have kt := hw.bx kt (by omega)
      clear HS
      have B0 := B0.trans (hw.1.mono B0.size)
      clear hw
      have ka0 := ka.1
      have ka1 := ka.2
      have kb0 := kb.1
      have kb1 := kb.2
      have kw0 := kw.1
      have kw1 := kw.2
      have kq0 := kq.1
      have kq1 := kq.2
      have kr0 := kr.1
      have kr1 := kr.2
      have ks0 := ks.1
      have ks1 := ks.2
      have kt0 := kt.1
      have kt1 := kt.2
      have kx0 := kx.1
      have kx1 := kx.2
      have ky0 := ky.1
      have ky1 := ky.2
      go_wp2_with fail
      refine (normal_i zx).mono ?_
      clear ka0 ka1 kb0 kb1 kw0 kw1 kq0 kq1 kr0 kr1 ks0 ks1 kt0 kt1 kx0 kx1 ky0 ky1
      rintro e w41 ⟨rfl, bb⟩
      have ha := ha.below bb
      have hb := hb.below bb
      have hxy := hxy.below bb
      have zq := zq.below bb
      have zr := zr.below bb
      have zs := zs.below bb
      have zt := zt.below bb
      have zx := zx.below bb
      have zy := zy.below bb
      have ka := ka.below bb
      have kb := kb.below bb
      have kw := kw.below bb
      have kq := kq.below bb
      have kr := kr.below bb
      have ks := ks.below bb
      have kt := kt.below bb
      have kx := kx.below bb
      have ky := ky.below bb
      have B0 := B0.trans (bb.mono B0.size)
      clear bb
      have ka0 := ka.1
      have ka1 := ka.2
      have kb0 := kb.1
      have kb1 := kb.2
      have kw0 := kw.1
      have kw1 := kw.2
      have kq0 := kq.1
      have kq1 := kq.2
      have kr0 := kr.1
      have kr1 := kr.2
      have ks0 := ks.1
      have ks1 := ks.2
      have kt0 := kt.1
      have kt1 := kt.2
      have kx0 := kx.1
      have kx1 := kx.2
      have ky0 := ky.1
      have ky1 := ky.2
      go_wp2_with fail
      refine (normal_i zy).mono ?_
      clear ka0 ka1 kb0 kb1 kw0 kw1 kq0 kq1 kr0 kr1 ks0 ks1 kt0 kt1 kx0 kx1 ky0 ky1
      rintro e w42 ⟨rfl, bb⟩
      have ha := ha.below bb
      have hb := hb.below bb
      have hxy := hxy.below bb
      have zq := zq.below bb
      have zr := zr.below bb
      have zs := zs.below bb
      have zt := zt.below bb
      have zx := zx.below bb
      have zy := zy.below bb
      have ka := ka.below bb
      have kb := kb.below bb
      have kw := kw.below bb
      have kq := kq.below bb
      have kr := kr.below bb
      have ks := ks.below bb
      have kt := kt.below bb
      have kx := kx.below bb
      have ky := ky.below bb
      have B0 := B0.trans (bb.mono B0.size)
      clear bb
      have ka0 := ka.1
      have ka1 := ka.2
      have kb0 := kb.1
      have kb1 := kb.2
      have kw0 := kw.1
      have kw1 := kw.2
      have kq0 := kq.1
      have kq1 := kq.2
      have kr0 := kr.1
      have kr1 := kr.2
      have ks0 := ks.1
      have ks1 := ks.2
      have kt0 := kt.1
      have kt1 := kt.2
      have kx0 := kx.1
      have kx1 := kx.2
      have ky0 := ky.1
      have ky1 := ky.2
      go_wp2_with fail
      refine (normal_i zq).mono ?_
      clear ka0 ka1 kb0 kb1 kw0 kw1 kq0 kq1 kr0 kr1 ks0 ks1 kt0 kt1 kx0 kx1 ky0 ky1
      rintro e w43 ⟨rfl, bb⟩
      have ha := ha.below bb
      have hb := hb.below bb
      have hxy := hxy.below bb
      have zq := zq.below bb
      have zr := zr.below bb
      have zs := zs.below bb
      have zt := zt.below bb
      have zx := zx.below bb
      have zy := zy.below bb
      have ka := ka.below bb
      have kb := kb.below bb
      have kw := kw.below bb
      have kq := kq.below bb
      have kr := kr.below bb
      have ks := ks.below bb
      have kt := kt.below bb
      have kx := kx.below bb
      have ky := ky.below bb
      have B0 := B0.trans (bb.mono B0.size)
      clear bb
      have ka0 := ka.1
      have ka1 := ka.2
      have kb0 := kb.1
      have kb1 := kb.2
      have kw0 := kw.1
      have kw1 := kw.2
      have kq0 := kq.1
      have kq1 := kq.2
      have kr0 := kr.1
      have kr1 := kr.2
      have ks0 := ks.1
      have ks1 := ks.2
      have kt0 := kt.1
      have kt1 := kt.2
      have kx0 := kx.1
      have kx1 := kx.2
      have ky0 := ky.1
      have ky1 := ky.2
      go_wp2_with fail
      refine (normal_i zr).mono ?_
      clear ka0 ka1 kb0 kb1 kw0 kw1 kq0 kq1 kr0 kr1 ks0 ks1 kt0 kt1 kx0 kx1 ky0 ky1
      rintro e w44 ⟨rfl, bb⟩
      have ha := ha.below bb
      have hb := hb.below bb
      have hxy := hxy.below bb
      have zq := zq.below bb
      have zr := zr.below bb
      have zs := zs.below bb
      have zt := zt.below bb
      have zx := zx.below bb
      have zy := zy.below bb
      have ka := ka.below bb
      have kb := kb.below bb
      have kw := kw.below bb
      have kq := kq.below bb
      have kr := kr.below bb
      have ks := ks.below bb
      have kt := kt.below bb
      have kx := kx.below bb
      have ky := ky.below bb
      have B0 := B0.trans (bb.mono B0.size)
      clear bb
      have ka0 := ka.1
      have ka1 := ka.2
      have kb0 := kb.1
      have kb1 := kb.2
      have kw0 := kw.1
      have kw1 := kw.2
      have kq0 := kq.1
      have kq1 := kq.2
      have kr0 := kr.1
      have kr1 := kr.2
      have ks0 := ks.1
      have ks1 := ks.2
      have kt0 := kt.1
      have kt1 := kt.2
      have kx0 := kx.1
      have kx1 := kx.2
      have ky0 := ky.1
      have ky1 := ky.2
      go_wp2_with fail
      refine (ineg_i ha (by omega)).mono ?_
      clear ka0 ka1 kb0 kb1 kw0 kw1 kq0 kq1 kr0 kr1 ks0 ks1 kt0 kt1 kx0 kx1 ky0 ky1
      rintro e w45 ⟨v1, rfl, z1, bb⟩
      have ha := ha.below bb
      have hb := hb.below bb
      have hxy := hxy.below bb
      have zq := zq.below bb
      have zr := zr.below bb
      have zs := zs.below bb
      have zt := zt.below bb
      have zx := zx.below bb
      have zy := zy.below bb
      have ka := ka.below bb
      have kb := kb.below bb
      have kw := kw.below bb
      have kq := kq.below bb
      have kr := kr.below bb
      have ks := ks.below bb
      have kt := kt.below bb
      have kx := kx.below bb
      have ky := ky.below bb
      have B0 := B0.trans (bb.mono B0.size)
      clear bb
      have ka0 := ka.1
      have ka1 := ka.2
      have kb0 := kb.1
      have kb1 := kb.2
      have kw0 := kw.1
      have kw1 := kw.2
      have kq0 := kq.1
      have kq1 := kq.2
      have kr0 := kr.1
      have kr1 := kr.2
      have ks0 := ks.1
      have ks1 := ks.2
      have kt0 := kt.1
      have kt1 := kt.2
      have kx0 := kx.1
      have kx1 := kx.2
      have ky0 := ky.1
      have ky1 := ky.2
      go_wp2_with fail
      refine (normal_i z1).mono ?_
      clear ka0 ka1 kb0 kb1 kw0 kw1 kq0 kq1 kr0 kr1 ks0 ks1 kt0 kt1 kx0 kx1 ky0 ky1
      rintro e w46 ⟨rfl, bb⟩
      have ha := ha.below bb
      have hb := hb.below bb
      have hxy := hxy.below bb
      have zq := zq.below bb
      have zr := zr.below bb
      have zs := zs.below bb
      have zt := zt.below bb
      have zx := zx.below bb
      have zy := zy.below bb
      have ka := ka.below bb
      have kb := kb.below bb
      have kw := kw.below bb
      have kq := kq.below bb
      have kr := kr.below bb
      have ks := ks.below bb
      have kt := kt.below bb
      have kx := kx.below bb
      have ky := ky.below bb
      have z1 := z1.below bb
      have B0 := B0.trans (bb.mono B0.size)
      clear bb
      have ka0 := ka.1
      have ka1 := ka.2
      have kb0 := kb.1
      have kb1 := kb.2
      have kw0 := kw.1
      have kw1 := kw.2
      have kq0 := kq.1
      have kq1 := kq.2
      have kr0 := kr.1
      have kr1 := kr.2
      have ks0 := ks.1
      have ks1 := ks.2
      have kt0 := kt.1
      have kt1 := kt.2
      have kx0 := kx.1
      have kx1 := kx.2
      have ky0 := ky.1
      have ky1 := ky.2
      go_wp2_with fail
      refine (inorm_i ha (by omega)).mono ?_
      clear ka0 ka1 kb0 kb1 kw0 kw1 kq0 kq1 kr0 kr1 ks0 ks1 kt0 kt1 kx0 kx1 ky0 ky1
      rintro e w47 ⟨v2, rfl, z2, bb⟩
      have ha := ha.below bb
      have hb := hb.below bb
      have hxy := hxy.below bb
      have zq := zq.below bb
      have zr := zr.below bb
      have zs := zs.below bb
      have zt := zt.below bb
      have zx := zx.below bb
      have zy := zy.below bb
      have ka := ka.below bb
      have kb := kb.below bb
      have kw := kw.below bb
      have kq := kq.below bb
      have kr := kr.below bb
      have ks := ks.below bb
      have kt := kt.below bb
      have kx := kx.below bb
      have ky := ky.below bb
      have B0 := B0.trans (bb.mono B0.size)
      clear bb
      have ka0 := ka.1
      have ka1 := ka.2
      have kb0 := kb.1
      have kb1 := kb.2
      have kw0 := kw.1
      have kw1 := kw.2
      have kq0 := kq.1
      have kq1 := kq.2
      have kr0 := kr.1
      have kr1 := kr.2
      have ks0 := ks.1
      have ks1 := ks.2
      have kt0 := kt.1
      have kt1 := kt.2
      have kx0 := kx.1
      have kx1 := kx.2
      have ky0 := ky.1
      have ky1 := ky.2
      go_wp2_with fail
      refine (normal_i z2).mono ?_
      clear ka0 ka1 kb0 kb1 kw0 kw1 kq0 kq1 kr0 kr1 ks0 ks1 kt0 kt1 kx0 kx1 ky0 ky1
      rintro e w48 ⟨rfl, bb⟩
      have ha := ha.below bb
      have hb := hb.below bb
      have hxy := hxy.below bb
      have zq := zq.below bb
      have zr := zr.below bb
      have zs := zs.below bb
      have zt := zt.below bb
      have zx := zx.below bb
      have zy := zy.below bb
      have ka := ka.below bb
      have kb := kb.below bb
      have kw := kw.below bb
      have kq := kq.below bb
      have kr := kr.below bb
      have ks := ks.below bb
      have kt := kt.below bb
      have kx := kx.below bb
      have ky := ky.below bb
      have z2 := z2.below bb
      have B0 := B0.trans (bb.mono B0.size)
      clear bb
      go_wp2_with fail
      have ha := ha.drew
      have hb := hb.drew
      have hxy := hxy.drew
      have zq := zq.drew
      have zr := zr.drew
      have zs := zs.drew
      have zt := zt.drew
      have zx := zx.drew
      have zy := zy.drew
      have ka := ka.drew
      have kb := kb.drew
      have kw := kw.drew
      have kq := kq.drew
      have kr := kr.drew
      have ks := ks.drew
      have kt := kt.drew
      have kx := kx.drew
      have ky := ky.drew
      have B0 := b_drew B0
      go_region_held3 (fun w' => w'.cell? ⟨w.heap.size, 0, none⟩ = some (.bool ba) ∧ w'.cell? ⟨w.heap.size, 1, none⟩ = some (.slice Aa na ca) ∧ w'.cell? ⟨w.heap.size + 1, 0, none⟩ = some (.bool bb) ∧ w'.cell? ⟨w.heap.size + 1, 1, none⟩ = some (.slice Ab nb cb) ∧ w'.cell? ⟨gz, 0, none⟩ = some (.bool ba) ∧ w'.cell? ⟨gz, 1, none⟩ = some (.slice A9 (na + y) c9) ∧ w'.cell? ⟨w31.heap.size, 0, none⟩ = some (.bool bzq) ∧ w'.cell? ⟨w31.heap.size, 1, none⟩ = some (.slice Azq nzq czq) ∧ w'.cell? ⟨w31.heap.size + 1, 0, none⟩ = some (.bool bzr) ∧ w'.cell? ⟨w31.heap.size + 1, 1, none⟩ = some (.slice Azr nzr czr) ∧ w'.cell? ⟨w32.heap.size, 0, none⟩ = some (.bool bzs) ∧ w'.cell? ⟨w32.heap.size, 1, none⟩ = some (.slice Azs nzs czs) ∧ w'.cell? ⟨w32.heap.size + 1, 0, none⟩ = some (.bool bzt) ∧ w'.cell? ⟨w32.heap.size + 1, 1, none⟩ = some (.slice Azt nzt czt) ∧ w'.cell? ⟨gx, 0, none⟩ = some (.bool bx) ∧ w'.cell? ⟨gx, 1, none⟩ = some (.slice Ax nx cx) ∧ w'.cell? ⟨gy, 0, none⟩ = some (.bool by') ∧ w'.cell? ⟨gy, 1, none⟩ = some (.slice Ay ny cy)) (first | exact ⟨ka.1, ka.2, kb.1, kb.2, kw.1, kw.2, kq.1, kq.2, kr.1, kr.2, ks.1, ks.2, kt.1, kt.2, kx.1, kx.2, ky.1, ky.2⟩)
        (first
          | (go_at_call 21; (with_reducible refine (iadd_i hxy hb ?_ ?_).mono ?_); omega; omega; rintro e w49 ⟨v3, rfl, z3, bb⟩; have ha := ha.below bb; have hb := hb.below bb; have hxy := hxy.below bb; have zq := zq.below bb; have zr := zr.below bb; have zs := zs.below bb; have zt := zt.below bb; have zx := zx.below bb; have zy := zy.below bb; have ka := ka.below bb; have kb := kb.below bb; have kw := kw.below bb; have kq := kq.below bb; have kr := kr.below bb; have ks := ks.below bb; have kt := kt.below bb; have kx := kx.below bb; have ky := ky.below bb; have B0 := B0.trans (bb.mono B0.size); clear bb)
          | (go_at_call 14; (with_reducible refine (isame_i zx z3 (rfl)).mono ?_); rintro e w50 ⟨rfl, bb⟩; have ha := ha.below bb; have hb := hb.below bb; have hxy := hxy.below bb; have zq := zq.below bb; have zr := zr.below bb; have zs := zs.below bb; have zt := zt.below bb; have zx := zx.below bb; have zy := zy.below bb; have ka := ka.below bb; have kb := kb.below bb; have kw := kw.below bb; have kq := kq.below bb; have kr := kr.below bb; have ks := ks.below bb; have kt := kt.below bb; have kx := kx.below bb; have ky := ky.below bb; have z3 := z3.below bb; have B0 := B0.trans (bb.mono B0.size); clear bb)
          | (go_at_call 27; (with_reducible refine (imul_i hxy hb ?_ ?_).mono ?_); omega; omega; rintro e w51 ⟨v4, rfl, z4, bb⟩; have ha := ha.below bb; have hb := hb.below bb; have hxy := hxy.below bb; have zq := zq.below bb; have zr := zr.below bb; have zs := zs.below bb; have zt := zt.below bb; have zx := zx.below bb; have zy := zy.below bb; have ka := ka.below bb; have kb := kb.below bb; have kw := kw.below bb; have kq := kq.below bb; have kr := kr.below bb; have ks := ks.below bb; have kt := kt.below bb; have kx := kx.below bb; have ky := ky.below bb; have B0 := B0.trans (bb.mono B0.size); clear bb)
          | (go_at_call 14; (with_reducible refine (isame_i zy z4 (rfl)).mono ?_); rintro e w52 ⟨rfl, bb⟩; have ha := ha.below bb; have hb := hb.below bb; have hxy := hxy.below bb; have zq := zq.below bb; have zr := zr.below bb; have zs := zs.below bb; have zt := zt.below bb; have zx := zx.below bb; have zy := zy.below bb; have ka := ka.below bb; have kb := kb.below bb; have kw := kw.below bb; have kq := kq.below bb; have kr := kr.below bb; have ks := ks.below bb; have kt := kt.below bb; have kx := kx.below bb; have ky := ky.below bb; have z4 := z4.below bb; have B0 := B0.trans (bb.mono B0.size); clear bb)
          | (go_at_call 14; (with_reducible refine (isame_i zq zs (rfl)).mono ?_); rintro e w53 ⟨rfl, bb⟩; have ha := ha.below bb; have hb := hb.below bb; have hxy := hxy.below bb; have zq := zq.below bb; have zr := zr.below bb; have zs := zs.below bb; have zt := zt.below bb; have zx := zx.below bb; have zy := zy.below bb; have ka := ka.below bb; have kb := kb.below bb; have kw := kw.below bb; have kq := kq.below bb; have kr := kr.below bb; have ks := ks.below bb; have kt := kt.below bb; have kx := kx.below bb; have ky := ky.below bb; have B0 := B0.trans (bb.mono B0.size); clear bb)
          | (go_at_call 14; (with_reducible refine (isame_i zr zt (rfl)).mono ?_); rintro e w54 ⟨rfl, bb⟩; have ha := ha.below bb; have hb := hb.below bb; have hxy := hxy.below bb; have zq := zq.below bb; have zr := zr.below bb; have zs := zs.below bb; have zt := zt.below bb; have zx := zx.below bb; have zy := zy.below bb; have ka := ka.below bb; have kb := kb.below bb; have kw := kw.below bb; have kq := kq.below bb; have kr := kr.below bb; have ks := ks.below bb; have kt := kt.below bb; have kx := kx.below bb; have ky := ky.below bb; have B0 := B0.trans (bb.mono B0.size); clear bb)
          | (go_at_call 32; (with_reducible refine (itext_i ha ?_ (HT.out.below B0) t HX.out).mono ?_); omega; rintro e w55 ⟨rfl, bb⟩; have ha := ha.below bb; have hb := hb.below bb; have hxy := hxy.below bb; have zq := zq.below bb; have zr := zr.below bb; have zs := zs.below bb; have zt := zt.below bb; have zx := zx.below bb; have zy := zy.below bb; have ka := ka.below bb; have kb := kb.below bb; have kw := kw.below bb; have kq := kq.below bb; have kr := kr.below bb; have ks := ks.below bb; have kt := kt.below bb; have kx := kx.below bb; have ky := ky.below bb; have B0 := B0.trans (bb.mono B0.size); clear bb)
          | (go_at_call 32; (with_reducible refine (itext_i hxy ?_ (HT.out.below B0) t HX.out).mono ?_); omega; rintro e w56 ⟨rfl, bb⟩; have ha := ha.below bb; have hb := hb.below bb; have hxy := hxy.below bb; have zq := zq.below bb; have zr := zr.below bb; have zs := zs.below bb; have zt := zt.below bb; have zx := zx.below bb; have zy := zy.below bb; have ka := ka.below bb; have kb := kb.below bb; have kw := kw.below bb; have kq := kq.below bb; have kr := kr.below bb; have ks := ks.below bb; have kt := kt.below bb; have kx := kx.below bb; have ky := ky.below bb; have B0 := B0.trans (bb.mono B0.size); clear bb)
          | (go_at_call 17; (with_reducible refine (icmp_i ha hxy _ HAA.out).mono ?_); rintro e w57 ⟨rfl, bb⟩; have ha := ha.below bb; have hb := hb.below bb; have hxy := hxy.below bb; have zq := zq.below bb; have zr := zr.below bb; have zs := zs.below bb; have zt := zt.below bb; have zx := zx.below bb; have zy := zy.below bb; have ka := ka.below bb; have kb := kb.below bb; have kw := kw.below bb; have kq := kq.below bb; have kr := kr.below bb; have ks := ks.below bb; have kt := kt.below bb; have kx := kx.below bb; have ky := ky.below bb; have B0 := B0.trans (bb.mono B0.size); clear bb)
          | (go_at_call 13; (with_reducible refine (awake_walk _ (HT.out.below B0)).mono ?_); rintro e w58 ⟨rfl, bb⟩; have ha := ha.below bb; have hb := hb.below bb; have hxy := hxy.below bb; have zq := zq.below bb; have zr := zr.below bb; have zs := zs.below bb; have zt := zt.below bb; have zx := zx.below bb; have zy := zy.below bb; have ka := ka.below bb; have kb := kb.below bb; have kw := kw.below bb; have kq := kq.below bb; have kr := kr.below bb; have ks := ks.below bb; have kt := kt.below bb; have kx := kx.below bb; have ky := ky.below bb; have B0 := B0.trans (bb.mono B0.size); clear bb))
      go_wp2
      go_ret
      exact ⟨rfl, B0⟩
end Go.Proofs.YthcoemkbdllcfaaDoor
