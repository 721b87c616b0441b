/-
  The walk of garmentlaw02.IntegerOrders: it returns true, whatever the integers.
-/
import Derived.Test.YthcoemkbdllcfaaDoorLawA
import Derived.Test.YthcoemkbdllcfaaDoorLawOrdG
import Derived.Deep.RegionWith
namespace Go.Proofs.YthcoemkbdllcfaaDoor
open Go.RowKit
attribute [local go_sem ↓] Go.wp_at_zero Go.wp_at_succ
set_option linter.unusedVariables false

set_option maxRecDepth 20000 in
set_option maxHeartbeats 8000000 in
theorem integerOrders_lp {ba : Bool} {Aa : Option Addr} {na ca : Nat} {bb : Bool} {Ab : Option Addr} {nb cb : Nat} {bc : Bool} {Ac : Option Addr} {nc cc : Nat} {a : Int} {b : Int} {c : Int} (w : World) (ha : Iv w (.agg #[.bool ba, .slice Aa na ca]) a na)  (hb : Iv w (.agg #[.bool bb, .slice Ab nb cb]) b nb)  (hc : Iv w (.agg #[.bool bc, .slice Ac nc cc]) c nc) (h1 : na ≤ 30) (h2 : nb ≤ 30) (h3 : nc ≤ 30) (ho : cmpZ a b = (-1)) (hp : 0 < cmpZ b c) (ht : Tab w) :
    Calls Tryd.prog 9 #[.agg #[.bool ba, .slice Aa na ca], .agg #[.bool bb, .slice Ab nb cb], .agg #[.bool bc, .slice Ac nc cc]] w (BoolEnd true w) := by
  have HT := Lib.hid ht
  clear ht
  have ho1 : cmpZ b a = 1 := by have h4 := cmpZ_cases a b; have h5 := cmpZ_cases b a; omega
  have ho2 : cmpZ a a = 0 := by have h4 := cmpZ_cases a a; omega
  have ho3 : cmpZ (a - b) 0 = (-1) := by have h4 := cmpZ_cases a b; have h5 := cmpZ_cases (a - b) 0; omega
  have ho4 : cmpZ (a + c) (b + c) = (-1) := by have h4 := cmpZ_cases a b; have h5 := cmpZ_cases (a + c) (b + c); omega
  have hne : a ≠ b := by have h4 := cmpZ_cases a b; omega
  obtain ⟨p, hpp, hpe⟩ : ∃ p : Int, 0 < p ∧ cmpZ b c = p := ⟨_, hp, rfl⟩
  have hdp : decide (0 < p) = true := decide_eq_true hpp
  have HP := Lib.hid hpe
  clear hp hpe
  have HO := Lib.hid ho
  have HO1 := Lib.hid ho1
  have HO2 := Lib.hid ho2
  have HO3 := Lib.hid ho3
  have HO4 := Lib.hid ho4
  have HNE := Lib.hid hne
  clear ho ho1 ho2 ho3 ho4 hne
  have B0 := below_a3 w (.cells #[.bool ba, .slice Aa na ca] 25) (.cells #[.bool bb, .slice Ab nb cb] 25) (.cells #[.bool bc, .slice Ac nc cc] 25)
  have ha := ha.below B0
  have hb := hb.below B0
  have hc := hc.below B0
  have ka := (((Bx.new w (w.heap.size) (by simp) (.bool ba) (.slice Aa na ca)).below (below_alloc (w.alloc (.cells #[.bool ba, .slice Aa na ca] 25)) (.cells #[.bool bb, .slice Ab nb cb] 25))).below (below_alloc ((w.alloc (.cells #[.bool ba, .slice Aa na ca] 25)).alloc (.cells #[.bool bb, .slice Ab nb cb] 25)) (.cells #[.bool bc, .slice Ac nc cc] 25)))
  have kb := ((Bx.new (w.alloc (.cells #[.bool ba, .slice Aa na ca] 25)) (w.heap.size + 1) (by simp) (.bool bb) (.slice Ab nb cb)).below (below_alloc ((w.alloc (.cells #[.bool ba, .slice Aa na ca] 25)).alloc (.cells #[.bool bb, .slice Ab nb cb] 25)) (.cells #[.bool bc, .slice Ac nc cc] 25)))
  have kc := (Bx.new ((w.alloc (.cells #[.bool ba, .slice Aa na ca] 25)).alloc (.cells #[.bool bb, .slice Ab nb cb] 25)) (w.heap.size + 1 + 1) (by simp) (.bool bc) (.slice Ac nc cc))
  go_enter Tryd.func9, Tryd.ntmps9
  have ka0 := ka.1
  have ka1 := ka.2
  have kb0 := kb.1
  have kb1 := kb.2
  have kc0 := kc.1
  have kc1 := kc.2
  go_wp2_with fail
  refine (rshort_yes ba Aa na ca _ _ (by omega)).mono ?_
  clear ka0 ka1 kb0 kb1 kc0 kc1
  rintro e w1 ⟨rfl, bb⟩
  have ha := ha.below bb
  have hb := hb.below bb
  have hc := hc.below bb
  have ka := ka.below bb
  have kb := kb.below bb
  have kc := kc.below bb
  have B0 := B0.trans (bb.mono B0.size)
  clear bb
  have ka0 := ka.1
  have ka1 := ka.2
  have kb0 := kb.1
  have kb1 := kb.2
  have kc0 := kc.1
  have kc1 := kc.2
  go_wp2_with fail
  refine (rshort_yes bb Ab nb cb _ _ (by omega)).mono ?_
  clear ka0 ka1 kb0 kb1 kc0 kc1
  rintro e w2 ⟨rfl, bb⟩
  have ha := ha.below bb
  have hb := hb.below bb
  have hc := hc.below bb
  have ka := ka.below bb
  have kb := kb.below bb
  have kc := kc.below bb
  have B0 := B0.trans (bb.mono B0.size)
  clear bb
  have ka0 := ka.1
  have ka1 := ka.2
  have kb0 := kb.1
  have kb1 := kb.2
  have kc0 := kc.1
  have kc1 := kc.2
  go_wp2_with fail
  refine (rshort_yes bc Ac nc cc _ _ (by omega)).mono ?_
  clear ka0 ka1 kb0 kb1 kc0 kc1
  rintro e w3 ⟨rfl, bb⟩
  have ha := ha.below bb
  have hb := hb.below bb
  have hc := hc.below bb
  have ka := ka.below bb
  have kb := kb.below bb
  have kc := kc.below bb
  have B0 := B0.trans (bb.mono B0.size)
  clear bb
  have ka0 := ka.1
  have ka1 := ka.2
  have kb0 := kb.1
  have kb1 := kb.2
  have kc0 := kc.1
  have kc1 := kc.2
  go_wp2_with fail
  refine (icmp_i ha hb _ HO.out).mono ?_
  clear ka0 ka1 kb0 kb1 kc0 kc1
  rintro e w4 ⟨rfl, bb⟩
  have ha := ha.below bb
  have hb := hb.below bb
  have hc := hc.below bb
  have ka := ka.below bb
  have kb := kb.below bb
  have kc := kc.below bb
  have B0 := B0.trans (bb.mono B0.size)
  clear bb
  have hwr : IntKind.i64.wrap 1 = 1 := by rw [IntKind.wrap_i64]; omega
  go_wp2_with fail
  have ha := ha.drew
  have hb := hb.drew
  have hc := hc.drew
  have ka := ka.drew
  have kb := kb.drew
  have kc := kc.drew
  have B0 := b_drew B0
  go_region_held3 (fun w' => w'.cell? ⟨w.heap.size, 0, none⟩ = some (.bool ba) ∧ w'.cell? ⟨w.heap.size, 1, none⟩ = some (.slice Aa na ca) ∧ w'.cell? ⟨w.heap.size + 1, 0, none⟩ = some (.bool bb) ∧ w'.cell? ⟨w.heap.size + 1, 1, none⟩ = some (.slice Ab nb cb) ∧ w'.cell? ⟨w.heap.size + 1 + 1, 0, none⟩ = some (.bool bc) ∧ w'.cell? ⟨w.heap.size + 1 + 1, 1, none⟩ = some (.slice Ac nc cc)) (first | exact ⟨ka.1, ka.2, kb.1, kb.2, kc.1, kc.2⟩)
    (first
      | (go_at_call 17; (with_reducible refine (icmp_i hb ha _ HO1.out).mono ?_); rintro e w5 ⟨rfl, bb⟩; have ha := ha.below bb; have hb := hb.below bb; have hc := hc.below bb; have ka := ka.below bb; have kb := kb.below bb; have kc := kc.below bb; have B0 := B0.trans (bb.mono B0.size); clear bb)
      | (go_at_call 17; (with_reducible refine (icmp_i ha ha _ HO2.out).mono ?_); rintro e w6 ⟨rfl, bb⟩; have ha := ha.below bb; have hb := hb.below bb; have hc := hc.below bb; have ka := ka.below bb; have kb := kb.below bb; have kc := kc.below bb; have B0 := B0.trans (bb.mono B0.size); clear bb)
      | (go_at_call 23; (with_reducible refine (isub_i ha hb ?_ ?_).mono ?_); omega; omega; rintro e w7 ⟨v1, rfl, z1, bb⟩; have ha := ha.below bb; have hb := hb.below bb; have hc := hc.below bb; have ka := ka.below bb; have kb := kb.below bb; have kc := kc.below bb; have B0 := B0.trans (bb.mono B0.size); clear bb)
      | (go_at_call 36; (with_reducible refine (iof_i 0 (by decide) (by decide) _).mono ?_); rintro e w8 ⟨v2, rfl, z2, bb⟩; have ha := ha.below bb; have hb := hb.below bb; have hc := hc.below bb; have ka := ka.below bb; have kb := kb.below bb; have kc := kc.below bb; have z1 := z1.below bb; have B0 := B0.trans (bb.mono B0.size); clear bb)
      | (go_at_call 17; (with_reducible refine (icmp_i z1.iv z2.iv _ HO3.out).mono ?_); rintro e w9 ⟨rfl, bb⟩; have ha := ha.below bb; have hb := hb.below bb; have hc := hc.below bb; have ka := ka.below bb; have kb := kb.below bb; have kc := kc.below bb; have z1 := z1.below bb; have z2 := z2.below bb; have B0 := B0.trans (bb.mono B0.size); clear bb)
      | (go_at_call 21; (with_reducible refine (iadd_i ha hc ?_ ?_).mono ?_); omega; omega; rintro e w10 ⟨v3, rfl, z3, bb⟩; have ha := ha.below bb; have hb := hb.below bb; have hc := hc.below bb; have ka := ka.below bb; have kb := kb.below bb; have kc := kc.below bb; have B0 := B0.trans (bb.mono B0.size); clear bb)
      | (go_at_call 21; (with_reducible refine (iadd_i hb hc ?_ ?_).mono ?_); omega; omega; rintro e w11 ⟨v4, rfl, z4, bb⟩; have ha := ha.below bb; have hb := hb.below bb; have hc := hc.below bb; have ka := ka.below bb; have kb := kb.below bb; have kc := kc.below bb; have z3 := z3.below bb; have B0 := B0.trans (bb.mono B0.size); clear bb)
      | (go_at_call 17; (with_reducible refine (icmp_i z3.iv z4.iv _ HO4.out).mono ?_); rintro e w12 ⟨rfl, bb⟩; have ha := ha.below bb; have hb := hb.below bb; have hc := hc.below bb; have ka := ka.below bb; have kb := kb.below bb; have kc := kc.below bb; have z3 := z3.below bb; have z4 := z4.below bb; have B0 := B0.trans (bb.mono B0.size); clear bb))
  clear hwr
  go_wp2_with fail
  have ha := ha.drew
  have hb := hb.drew
  have hc := hc.drew
  have ka := ka.drew
  have kb := kb.drew
  have kc := kc.drew
  have B0 := b_drew B0
  have ka0 := ka.1
  have ka1 := ka.2
  have kb0 := kb.1
  have kb1 := kb.2
  have kc0 := kc.1
  have kc1 := kc.2
  go_region_with (first
    | (go_at_call 17; (with_reducible refine (icmp_i hb hc _ HP.out).mono ?_); rintro e w13 ⟨rfl, bb⟩; have ha := ha.below bb; have hb := hb.below bb; have hc := hc.below bb; have ka := ka.below bb; have kb := kb.below bb; have kc := kc.below bb; have B0 := B0.trans (bb.mono B0.size); clear bb; have ka0 := ka.1; have ka1 := ka.2; have kb0 := kb.1; have kb1 := kb.2; have kc0 := kc.1; have kc1 := kc.2)
    | (go_at_call 15; (with_reducible refine (inorm_i ha ?_).mono ?_); omega; rintro e w14 ⟨v5, rfl, z5, bb⟩; have ha := ha.below bb; have hb := hb.below bb; have hc := hc.below bb; have ka := ka.below bb; have kb := kb.below bb; have kc := kc.below bb; have B0 := B0.trans (bb.mono B0.size); clear bb; have ka0 := ka.1; have ka1 := ka.2; have kb0 := kb.1; have kb1 := kb.2; have kc0 := kc.1; have kc1 := kc.2)
    | (go_at_call 15; (with_reducible refine (inorm_i hb ?_).mono ?_); omega; rintro e w15 ⟨v6, rfl, z6, bb⟩; have ha := ha.below bb; have hb := hb.below bb; have hc := hc.below bb; have ka := ka.below bb; have kb := kb.below bb; have kc := kc.below bb; have z5 := z5.below bb; have B0 := B0.trans (bb.mono B0.size); clear bb; have ka0 := ka.1; have ka1 := ka.2; have kb0 := kb.1; have kb1 := kb.2; have kc0 := kc.1; have kc1 := kc.2)
    | (go_at_call 14; (with_reducible refine (idiff_i z5 z6 HNE.out).mono ?_); rintro e w16 ⟨rfl, bb⟩; have ha := ha.below bb; have hb := hb.below bb; have hc := hc.below bb; have ka := ka.below bb; have kb := kb.below bb; have kc := kc.below bb; have z5 := z5.below bb; have z6 := z6.below bb; have B0 := B0.trans (bb.mono B0.size); clear bb; have ka0 := ka.1; have ka1 := ka.2; have kb0 := kb.1; have kb1 := kb.2; have kc0 := kc.1; have kc1 := kc.2)
    | (go_at_call 13; (with_reducible refine (awake_walk _ (HT.out.below B0)).mono ?_); rintro e w17 ⟨rfl, bb⟩; have ha := ha.below bb; have hb := hb.below bb; have hc := hc.below bb; have ka := ka.below bb; have kb := kb.below bb; have kc := kc.below bb; have B0 := B0.trans (bb.mono B0.size); clear bb; have ka0 := ka.1; have ka1 := ka.2; have kb0 := kb.1; have kb1 := kb.2; have kc0 := kc.1; have kc1 := kc.2))
  all_goals go_wp2
  all_goals go_ret
  all_goals exact ⟨rfl, B0⟩
set_option maxRecDepth 20000 in
set_option maxHeartbeats 8000000 in
theorem integerOrders_lq {ba : Bool} {Aa : Option Addr} {na ca : Nat} {bb : Bool} {Ab : Option Addr} {nb cb : Nat} {bc : Bool} {Ac : Option Addr} {nc cc : Nat} {a : Int} {b : Int} {c : Int} (w : World) (ha : Iv w (.agg #[.bool ba, .slice Aa na ca]) a na)  (hb : Iv w (.agg #[.bool bb, .slice Ab nb cb]) b nb)  (hc : Iv w (.agg #[.bool bc, .slice Ac nc cc]) c nc) (h1 : na ≤ 30) (h2 : nb ≤ 30) (h3 : nc ≤ 30) (ho : cmpZ a b = (-1)) (hp : cmpZ b c ≤ 0) (ht : Tab w) :
    Calls Tryd.prog 9 #[.agg #[.bool ba, .slice Aa na ca], .agg #[.bool bb, .slice Ab nb cb], .agg #[.bool bc, .slice Ac nc cc]] w (BoolEnd true w) := by
  have HT := Lib.hid ht
  clear ht
  have ho1 : cmpZ b a = 1 := by have h4 := cmpZ_cases a b; have h5 := cmpZ_cases b a; omega
  have ho2 : cmpZ a a = 0 := by have h4 := cmpZ_cases a a; omega
  have ho3 : cmpZ (a - b) 0 = (-1) := by have h4 := cmpZ_cases a b; have h5 := cmpZ_cases (a - b) 0; omega
  have ho4 : cmpZ (a + c) (b + c) = (-1) := by have h4 := cmpZ_cases a b; have h5 := cmpZ_cases (a + c) (b + c); omega
  have hne : a ≠ b := by have h4 := cmpZ_cases a b; omega
  have hr0 : cmpZ a c ≤ 0 := by have h4 := cmpZ_cases a b; have h5 := cmpZ_cases b c; have h6 := cmpZ_cases a c; omega
  obtain ⟨p, hpp, hpe⟩ : ∃ p : Int, p ≤ 0 ∧ cmpZ b c = p := ⟨_, hp, rfl⟩
  obtain ⟨r, hrr, hre⟩ : ∃ r : Int, r ≤ 0 ∧ cmpZ a c = r := ⟨_, hr0, rfl⟩
  have hdp : decide (0 < p) = false := decide_eq_false (by omega)
  have hdr : decide (r ≤ 0) = true := decide_eq_true hrr
  have HP := Lib.hid hpe
  have HR := Lib.hid hre
  clear hp hpe hr0 hre
  have HO := Lib.hid ho
  have HO1 := Lib.hid ho1
  have HO2 := Lib.hid ho2
  have HO3 := Lib.hid ho3
  have HO4 := Lib.hid ho4
  have HNE := Lib.hid hne
  clear ho ho1 ho2 ho3 ho4 hne
  have B0 := below_a3 w (.cells #[.bool ba, .slice Aa na ca] 25) (.cells #[.bool bb, .slice Ab nb cb] 25) (.cells #[.bool bc, .slice Ac nc cc] 25)
  have ha := ha.below B0
  have hb := hb.below B0
  have hc := hc.below B0
  have ka := (((Bx.new w (w.heap.size) (by simp) (.bool ba) (.slice Aa na ca)).below (below_alloc (w.alloc (.cells #[.bool ba, .slice Aa na ca] 25)) (.cells #[.bool bb, .slice Ab nb cb] 25))).below (below_alloc ((w.alloc (.cells #[.bool ba, .slice Aa na ca] 25)).alloc (.cells #[.bool bb, .slice Ab nb cb] 25)) (.cells #[.bool bc, .slice Ac nc cc] 25)))
  have kb := ((Bx.new (w.alloc (.cells #[.bool ba, .slice Aa na ca] 25)) (w.heap.size + 1) (by simp) (.bool bb) (.slice Ab nb cb)).below (below_alloc ((w.alloc (.cells #[.bool ba, .slice Aa na ca] 25)).alloc (.cells #[.bool bb, .slice Ab nb cb] 25)) (.cells #[.bool bc, .slice Ac nc cc] 25)))
  have kc := (Bx.new ((w.alloc (.cells #[.bool ba, .slice Aa na ca] 25)).alloc (.cells #[.bool bb, .slice Ab nb cb] 25)) (w.heap.size + 1 + 1) (by simp) (.bool bc) (.slice Ac nc cc))
  go_enter Tryd.func9, Tryd.ntmps9
  have ka0 := ka.1
  have ka1 := ka.2
  have kb0 := kb.1
  have kb1 := kb.2
  have kc0 := kc.1
  have kc1 := kc.2
  go_wp2_with fail
  refine (rshort_yes ba Aa na ca _ _ (by omega)).mono ?_
  clear ka0 ka1 kb0 kb1 kc0 kc1
  rintro e w1 ⟨rfl, bb⟩
  have ha := ha.below bb
  have hb := hb.below bb
  have hc := hc.below bb
  have ka := ka.below bb
  have kb := kb.below bb
  have kc := kc.below bb
  have B0 := B0.trans (bb.mono B0.size)
  clear bb
  have ka0 := ka.1
  have ka1 := ka.2
  have kb0 := kb.1
  have kb1 := kb.2
  have kc0 := kc.1
  have kc1 := kc.2
  go_wp2_with fail
  refine (rshort_yes bb Ab nb cb _ _ (by omega)).mono ?_
  clear ka0 ka1 kb0 kb1 kc0 kc1
  rintro e w2 ⟨rfl, bb⟩
  have ha := ha.below bb
  have hb := hb.below bb
  have hc := hc.below bb
  have ka := ka.below bb
  have kb := kb.below bb
  have kc := kc.below bb
  have B0 := B0.trans (bb.mono B0.size)
  clear bb
  have ka0 := ka.1
  have ka1 := ka.2
  have kb0 := kb.1
  have kb1 := kb.2
  have kc0 := kc.1
  have kc1 := kc.2
  go_wp2_with fail
  refine (rshort_yes bc Ac nc cc _ _ (by omega)).mono ?_
  clear ka0 ka1 kb0 kb1 kc0 kc1
  rintro e w3 ⟨rfl, bb⟩
  have ha := ha.below bb
  have hb := hb.below bb
  have hc := hc.below bb
  have ka := ka.below bb
  have kb := kb.below bb
  have kc := kc.below bb
  have B0 := B0.trans (bb.mono B0.size)
  clear bb
  have ka0 := ka.1
  have ka1 := ka.2
  have kb0 := kb.1
  have kb1 := kb.2
  have kc0 := kc.1
  have kc1 := kc.2
  go_wp2_with fail
  refine (icmp_i ha hb _ HO.out).mono ?_
  clear ka0 ka1 kb0 kb1 kc0 kc1
  rintro e w4 ⟨rfl, bb⟩
  have ha := ha.below bb
  have hb := hb.below bb
  have hc := hc.below bb
  have ka := ka.below bb
  have kb := kb.below bb
  have kc := kc.below bb
  have B0 := B0.trans (bb.mono B0.size)
  clear bb
  have hwr : IntKind.i64.wrap 1 = 1 := by rw [IntKind.wrap_i64]; omega
  go_wp2_with fail
  have ha := ha.drew
  have hb := hb.drew
  have hc := hc.drew
  have ka := ka.drew
  have kb := kb.drew
  have kc := kc.drew
  have B0 := b_drew B0
  go_region_held3 (fun w' => w'.cell? ⟨w.heap.size, 0, none⟩ = some (.bool ba) ∧ w'.cell? ⟨w.heap.size, 1, none⟩ = some (.slice Aa na ca) ∧ w'.cell? ⟨w.heap.size + 1, 0, none⟩ = some (.bool bb) ∧ w'.cell? ⟨w.heap.size + 1, 1, none⟩ = some (.slice Ab nb cb) ∧ w'.cell? ⟨w.heap.size + 1 + 1, 0, none⟩ = some (.bool bc) ∧ w'.cell? ⟨w.heap.size + 1 + 1, 1, none⟩ = some (.slice Ac nc cc)) (first | exact ⟨ka.1, ka.2, kb.1, kb.2, kc.1, kc.2⟩)
    (first
      | (go_at_call 17; (with_reducible refine (icmp_i hb ha _ HO1.out).mono ?_); rintro e w5 ⟨rfl, bb⟩; have ha := ha.below bb; have hb := hb.below bb; have hc := hc.below bb; have ka := ka.below bb; have kb := kb.below bb; have kc := kc.below bb; have B0 := B0.trans (bb.mono B0.size); clear bb)
      | (go_at_call 17; (with_reducible refine (icmp_i ha ha _ HO2.out).mono ?_); rintro e w6 ⟨rfl, bb⟩; have ha := ha.below bb; have hb := hb.below bb; have hc := hc.below bb; have ka := ka.below bb; have kb := kb.below bb; have kc := kc.below bb; have B0 := B0.trans (bb.mono B0.size); clear bb)
      | (go_at_call 23; (with_reducible refine (isub_i ha hb ?_ ?_).mono ?_); omega; omega; rintro e w7 ⟨v1, rfl, z1, bb⟩; have ha := ha.below bb; have hb := hb.below bb; have hc := hc.below bb; have ka := ka.below bb; have kb := kb.below bb; have kc := kc.below bb; have B0 := B0.trans (bb.mono B0.size); clear bb)
      | (go_at_call 36; (with_reducible refine (iof_i 0 (by decide) (by decide) _).mono ?_); rintro e w8 ⟨v2, rfl, z2, bb⟩; have ha := ha.below bb; have hb := hb.below bb; have hc := hc.below bb; have ka := ka.below bb; have kb := kb.below bb; have kc := kc.below bb; have z1 := z1.below bb; have B0 := B0.trans (bb.mono B0.size); clear bb)
      | (go_at_call 17; (with_reducible refine (icmp_i z1.iv z2.iv _ HO3.out).mono ?_); rintro e w9 ⟨rfl, bb⟩; have ha := ha.below bb; have hb := hb.below bb; have hc := hc.below bb; have ka := ka.below bb; have kb := kb.below bb; have kc := kc.below bb; have z1 := z1.below bb; have z2 := z2.below bb; have B0 := B0.trans (bb.mono B0.size); clear bb)
      | (go_at_call 21; (with_reducible refine (iadd_i ha hc ?_ ?_).mono ?_); omega; omega; rintro e w10 ⟨v3, rfl, z3, bb⟩; have ha := ha.below bb; have hb := hb.below bb; have hc := hc.below bb; have ka := ka.below bb; have kb := kb.below bb; have kc := kc.below bb; have B0 := B0.trans (bb.mono B0.size); clear bb)
      | (go_at_call 21; (with_reducible refine (iadd_i hb hc ?_ ?_).mono ?_); omega; omega; rintro e w11 ⟨v4, rfl, z4, bb⟩; have ha := ha.below bb; have hb := hb.below bb; have hc := hc.below bb; have ka := ka.below bb; have kb := kb.below bb; have kc := kc.below bb; have z3 := z3.below bb; have B0 := B0.trans (bb.mono B0.size); clear bb)
      | (go_at_call 17; (with_reducible refine (icmp_i z3.iv z4.iv _ HO4.out).mono ?_); rintro e w12 ⟨rfl, bb⟩; have ha := ha.below bb; have hb := hb.below bb; have hc := hc.below bb; have ka := ka.below bb; have kb := kb.below bb; have kc := kc.below bb; have z3 := z3.below bb; have z4 := z4.below bb; have B0 := B0.trans (bb.mono B0.size); clear bb))
  clear hwr
  go_wp2_with fail
  have ha := ha.drew
  have hb := hb.drew
  have hc := hc.drew
  have ka := ka.drew
  have kb := kb.drew
  have kc := kc.drew
  have B0 := b_drew B0
  go_region_held3 (fun w' => w'.cell? ⟨w.heap.size, 0, none⟩ = some (.bool ba) ∧ w'.cell? ⟨w.heap.size, 1, none⟩ = some (.slice Aa na ca) ∧ w'.cell? ⟨w.heap.size + 1, 0, none⟩ = some (.bool bb) ∧ w'.cell? ⟨w.heap.size + 1, 1, none⟩ = some (.slice Ab nb cb) ∧ w'.cell? ⟨w.heap.size + 1 + 1, 0, none⟩ = some (.bool bc) ∧ w'.cell? ⟨w.heap.size + 1 + 1, 1, none⟩ = some (.slice Ac nc cc)) (first | exact ⟨ka.1, ka.2, kb.1, kb.2, kc.1, kc.2⟩)
    (first
      | (go_at_call 17; (with_reducible refine (icmp_i hb hc _ HP.out).mono ?_); rintro e w13 ⟨rfl, bb⟩; have ha := ha.below bb; have hb := hb.below bb; have hc := hc.below bb; have ka := ka.below bb; have kb := kb.below bb; have kc := kc.below bb; have B0 := B0.trans (bb.mono B0.size); clear bb)
      | (go_at_call 17; (with_reducible refine (icmp_i ha hc _ HR.out).mono ?_); rintro e w14 ⟨rfl, bb⟩; have ha := ha.below bb; have hb := hb.below bb; have hc := hc.below bb; have ka := ka.below bb; have kb := kb.below bb; have kc := kc.below bb; have B0 := B0.trans (bb.mono B0.size); clear bb)
      | (go_at_call 15; (with_reducible refine (inorm_i ha ?_).mono ?_); omega; rintro e w15 ⟨v5, rfl, z5, bb⟩; have ha := ha.below bb; have hb := hb.below bb; have hc := hc.below bb; have ka := ka.below bb; have kb := kb.below bb; have kc := kc.below bb; have B0 := B0.trans (bb.mono B0.size); clear bb)
      | (go_at_call 15; (with_reducible refine (inorm_i hb ?_).mono ?_); omega; rintro e w16 ⟨v6, rfl, z6, bb⟩; have ha := ha.below bb; have hb := hb.below bb; have hc := hc.below bb; have ka := ka.below bb; have kb := kb.below bb; have kc := kc.below bb; have z5 := z5.below bb; have B0 := B0.trans (bb.mono B0.size); clear bb)
      | (go_at_call 14; (with_reducible refine (idiff_i z5 z6 HNE.out).mono ?_); rintro e w17 ⟨rfl, bb⟩; have ha := ha.below bb; have hb := hb.below bb; have hc := hc.below bb; have ka := ka.below bb; have kb := kb.below bb; have kc := kc.below bb; have z5 := z5.below bb; have z6 := z6.below bb; have B0 := B0.trans (bb.mono B0.size); clear bb)
      | (go_at_call 13; (with_reducible refine (awake_walk _ (HT.out.below B0)).mono ?_); rintro e w18 ⟨rfl, bb⟩; have ha := ha.below bb; have hb := hb.below bb; have hc := hc.below bb; have ka := ka.below bb; have kb := kb.below bb; have kc := kc.below bb; have B0 := B0.trans (bb.mono B0.size); clear bb))
  go_wp2
  go_ret
  exact ⟨rfl, B0⟩
end Go.Proofs.YthcoemkbdllcfaaDoor
