/-
  The walk of garmentlaw02.IntegerTexts: it returns true, whatever the integers.
-/
import Derived.Test.YthcoemkbdllcfaaDoorLawA
import Derived.Test.YthcoemkbdllcfaaDoorParseB
import Derived.Test.YthcoemkbdllcfaaDoorRIntT
namespace Go.Proofs.YthcoemkbdllcfaaDoor
open Go.RowKit
attribute [local go_sem ↓] Go.wp_at_zero Go.wp_at_succ
set_option linter.unusedVariables false

set_option maxRecDepth 20000 in
set_option maxHeartbeats 8000000 in
theorem integerTexts_long_a {ba : Bool} {Aa : Option Addr} {na ca : Nat} (w : World) {s : ByteArray} (hl : 40 < na) (ht : Tab w) :
    Calls Tryd.prog 5 #[.agg #[.bool ba, .slice Aa na ca], .string s] w (BoolEnd true w) := by
  have HT := Lib.hid ht
  clear ht
  have B0 := below_a1 w (.cells #[.bool ba, .slice Aa na ca] 25)
  have ka := (Bx.new w (w.heap.size) (by simp) (.bool ba) (.slice Aa na ca))
  go_enter Tryd.func5, Tryd.ntmps5
  have ka0 := ka.1
  have ka1 := ka.2
  go_wp2_with fail
  refine (rshort_no ba Aa na ca _ _ (by omega)).mono ?_
  clear ka0 ka1
  rintro e w1 ⟨rfl, bb⟩
  have ka := ka.below bb
  have B0 := B0.trans (bb.mono B0.size)
  clear bb
  have ka0 := ka.1
  have ka1 := ka.2
  go_wp2_with fail
  refine (awake_walk _ (HT.out.below B0)).mono ?_
  clear ka0 ka1
  rintro e w2 ⟨rfl, bb⟩
  have ka := ka.below bb
  have B0 := B0.trans (bb.mono B0.size)
  clear bb
  go_wp2
  go_ret
  exact ⟨rfl, B0⟩
set_option maxRecDepth 20000 in
set_option maxHeartbeats 8000000 in
theorem integerTexts_long_s {ba : Bool} {Aa : Option Addr} {na ca : Nat} (w : World) {s : ByteArray} (hl : na ≤ 40) (hs : s.size ≤ 9223372036854775807) (h4 : 400 < s.size) (ht : Tab w) :
    Calls Tryd.prog 5 #[.agg #[.bool ba, .slice Aa na ca], .string s] w (BoolEnd true w) := by
  have HT := Lib.hid ht
  clear ht
  have B0 := below_a1 w (.cells #[.bool ba, .slice Aa na ca] 25)
  have ka := (Bx.new w (w.heap.size) (by simp) (.bool ba) (.slice Aa na ca))
  go_enter Tryd.func5, Tryd.ntmps5
  have ka0 := ka.1
  have ka1 := ka.2
  go_wp2_with fail
  refine (rshort_yes ba Aa na ca _ _ (by omega)).mono ?_
  clear ka0 ka1
  rintro e w1 ⟨rfl, bb⟩
  have ka := ka.below bb
  have B0 := B0.trans (bb.mono B0.size)
  clear bb
  have ka0 := ka.1
  have ka1 := ka.2
  go_wp2_with fail
  refine (awake_walk _ (HT.out.below B0)).mono ?_
  clear ka0 ka1
  rintro e w2 ⟨rfl, bb⟩
  have ka := ka.below bb
  have B0 := B0.trans (bb.mono B0.size)
  clear bb
  go_wp2
  go_ret
  exact ⟨rfl, B0⟩
set_option maxRecDepth 20000 in
set_option maxHeartbeats 8000000 in
theorem integerTexts_err {ba : Bool} {Aa : Option Addr} {na ca : Nat} {a : Int} (w : World) {s : ByteArray} (ha : Iv w (.agg #[.bool ba, .slice Aa na ca]) a na) (hl : na ≤ 40) (h4 : s.size ≤ 400) (code : Int) (hp : ∀ w, Calls Tryd.prog 30 #[.string s] w (PErr code w) ∧ Calls Tryd.prog 31 #[.string s] w (PErr code w)) (t : ByteArray) (htx : t.data.toList = zdec a) (ht : Tab w) :
    Calls Tryd.prog 5 #[.agg #[.bool ba, .slice Aa na ca], .string s] w (BoolEnd true w) := by
  have HT := Lib.hid ht
  clear ht
  have HP := Lib.hid hp
  have HX := Lib.hid htx
  clear hp htx
  have B0 := below_a1 w (.cells #[.bool ba, .slice Aa na ca] 25)
  have ha := ha.below B0
  have ka := (Bx.new w (w.heap.size) (by simp) (.bool ba) (.slice Aa na ca))
  go_enter Tryd.func5, Tryd.ntmps5
  have ka0 := ka.1
  have ka1 := ka.2
  go_wp2_with fail
  refine (rshort_yes ba Aa na ca _ _ (by omega)).mono ?_
  clear ka0 ka1
  rintro e w1 ⟨rfl, bb⟩
  have ha := ha.below bb
  have ka := ka.below bb
  have B0 := B0.trans (bb.mono B0.size)
  clear bb
  have ka0 := ka.1
  have ka1 := ka.2
  go_wp2_with fail
  refine ((HP.out _).1).mono ?_
  clear ka0 ka1
  rintro e w2 ⟨rfl, bb⟩
  have ha := ha.below bb
  have ka := ka.below bb
  have B0 := B0.trans (bb.mono B0.size)
  clear bb
  have ha := ha.below (below_alloc w2 (.cells #[.bool false, .slice none 0 0] 25))
  have ka := ka.below (below_alloc w2 (.cells #[.bool false, .slice none 0 0] 25))
  have k1 := Bx.new w2 (w2.heap.size) (by simp) (.bool false) (.slice none 0 0)
  have B0 := B0.trans ((below_alloc w2 (.cells #[.bool false, .slice none 0 0] 25)).mono B0.size)
  have ka0 := ka.1
  have ka1 := ka.2
  have k10 := k1.1
  have k11 := k1.2
  go_wp2_with fail
  refine ((HP.out _).2).mono ?_
  clear ka0 ka1 k10 k11
  rintro e w3 ⟨rfl, bb⟩
  have ha := ha.below bb
  have ka := ka.below bb
  have k1 := k1.below bb
  have B0 := B0.trans (bb.mono B0.size)
  clear bb
  have ha := ha.below (below_alloc w3 (.cells #[.bool false, .slice none 0 0] 25))
  have ka := ka.below (below_alloc w3 (.cells #[.bool false, .slice none 0 0] 25))
  have k1 := k1.below (below_alloc w3 (.cells #[.bool false, .slice none 0 0] 25))
  have k2 := Bx.new w3 (w3.heap.size) (by simp) (.bool false) (.slice none 0 0)
  have B0 := B0.trans ((below_alloc w3 (.cells #[.bool false, .slice none 0 0] 25)).mono B0.size)
  go_wp2_with fail
  have ha := ha.drew
  have ka := ka.drew
  have k1 := k1.drew
  have k2 := k2.drew
  have B0 := b_drew B0
  go_region_held3 (fun w' => w'.cell? ⟨w.heap.size, 0, none⟩ = some (.bool ba) ∧ w'.cell? ⟨w.heap.size, 1, none⟩ = some (.slice Aa na ca) ∧ w'.cell? ⟨w2.heap.size, 0, none⟩ = some (.bool false) ∧ w'.cell? ⟨w2.heap.size, 1, none⟩ = some (.slice none 0 0) ∧ w'.cell? ⟨w3.heap.size, 0, none⟩ = some (.bool false) ∧ w'.cell? ⟨w3.heap.size, 1, none⟩ = some (.slice none 0 0)) (first | exact ⟨ka.1, ka.2, k1.1, k1.2, k2.1, k2.2⟩)
    (first
      | (go_at_call 32; (with_reducible refine (itext_i ha ?_ (HT.out.below B0) t HX.out).mono ?_); omega; rintro e w4 ⟨rfl, bb⟩; have ha := ha.below bb; have ka := ka.below bb; have k1 := k1.below bb; have k2 := k2.below bb; have B0 := B0.trans (bb.mono B0.size); clear bb)
      | (go_at_call 33; (with_reducible refine (ritext_i ha ?_ t HX.out).mono ?_); omega; rintro e w5 ⟨rfl, bb⟩; have ha := ha.below bb; have ka := ka.below bb; have k1 := k1.below bb; have k2 := k2.below bb; have B0 := B0.trans (bb.mono B0.size); clear bb)
      | (go_at_call 14; (with_reducible refine (isame_i (zero_iz _) (zero_iz _) (rfl)).mono ?_); rintro e w6 ⟨rfl, bb⟩; have ha := ha.below bb; have ka := ka.below bb; have k1 := k1.below bb; have k2 := k2.below bb; have B0 := B0.trans (bb.mono B0.size); clear bb)
      | (go_at_call 13; (with_reducible refine (awake_walk _ (HT.out.below B0)).mono ?_); rintro e w7 ⟨rfl, bb⟩; have ha := ha.below bb; have ka := ka.below bb; have k1 := k1.below bb; have k2 := k2.below bb; have B0 := B0.trans (bb.mono B0.size); clear bb))
  go_wp2
  go_ret
  exact ⟨rfl, B0⟩
set_option maxRecDepth 20000 in
set_option maxHeartbeats 8000000 in
theorem integerTexts_ok {ba : Bool} {Aa : Option Addr} {na ca : Nat} {a : Int} (w : World) {s : ByteArray} (ha : Iv w (.agg #[.bool ba, .slice Aa na ca]) a na) (hl : na ≤ 40) (h4 : s.size ≤ 400) (z : Int) (hp : ∀ w, Calls Tryd.prog 30 #[.string s] w (PInt z w) ∧ Calls Tryd.prog 31 #[.string s] w (PInt z w)) (t : ByteArray) (htx : t.data.toList = zdec a) (ht : Tab w) :
    Calls Tryd.prog 5 #[.agg #[.bool ba, .slice Aa na ca], .string s] w (BoolEnd true w) := by
  have HT := Lib.hid ht
  clear ht
  have HP := Lib.hid hp
  have HX := Lib.hid htx
  clear hp htx
  have B0 := below_a1 w (.cells #[.bool ba, .slice Aa na ca] 25)
  have ha := ha.below B0
  have ka := (Bx.new w (w.heap.size) (by simp) (.bool ba) (.slice Aa na ca))
  go_enter Tryd.func5, Tryd.ntmps5
  have ka0 := ka.1
  have ka1 := ka.2
  go_wp2_with fail
  refine (rshort_yes ba Aa na ca _ _ (by omega)).mono ?_
  clear ka0 ka1
  rintro e w1 ⟨rfl, bb⟩
  have ha := ha.below bb
  have ka := ka.below bb
  have B0 := B0.trans (bb.mono B0.size)
  clear bb
  have ka0 := ka.1
  have ka1 := ka.2
  go_wp2_with fail
  refine ((HP.out _).1).mono ?_
  clear ka0 ka1
  rintro e w2 ⟨v1, rfl, z1, bb⟩
  have ha := ha.below bb
  have ka := ka.below bb
  have B0 := B0.trans (bb.mono B0.size)
  clear bb
  obtain ⟨bz1, Az1, nz1, cz1, rfl, z1⟩ := z1.cells
  have ha := ha.below (below_alloc w2 (.cells #[.bool bz1, .slice Az1 nz1 cz1] 25))
  have ka := ka.below (below_alloc w2 (.cells #[.bool bz1, .slice Az1 nz1 cz1] 25))
  have z1 := z1.below (below_alloc w2 (.cells #[.bool bz1, .slice Az1 nz1 cz1] 25))
  have k1 := Bx.new w2 (w2.heap.size) (by simp) (.bool bz1) (.slice Az1 nz1 cz1)
  have B0 := B0.trans ((below_alloc w2 (.cells #[.bool bz1, .slice Az1 nz1 cz1] 25)).mono B0.size)
  have ka0 := ka.1
  have ka1 := ka.2
  have k10 := k1.1
  have k11 := k1.2
  go_wp2_with fail
  refine ((HP.out _).2).mono ?_
  clear ka0 ka1 k10 k11
  rintro e w3 ⟨v2, rfl, z2, bb⟩
  have ha := ha.below bb
  have ka := ka.below bb
  have z1 := z1.below bb
  have k1 := k1.below bb
  have B0 := B0.trans (bb.mono B0.size)
  clear bb
  obtain ⟨bz2, Az2, nz2, cz2, rfl, z2⟩ := z2.cells
  have ha := ha.below (below_alloc w3 (.cells #[.bool bz2, .slice Az2 nz2 cz2] 25))
  have ka := ka.below (below_alloc w3 (.cells #[.bool bz2, .slice Az2 nz2 cz2] 25))
  have z1 := z1.below (below_alloc w3 (.cells #[.bool bz2, .slice Az2 nz2 cz2] 25))
  have k1 := k1.below (below_alloc w3 (.cells #[.bool bz2, .slice Az2 nz2 cz2] 25))
  have z2 := z2.below (below_alloc w3 (.cells #[.bool bz2, .slice Az2 nz2 cz2] 25))
  have k2 := Bx.new w3 (w3.heap.size) (by simp) (.bool bz2) (.slice Az2 nz2 cz2)
  have B0 := B0.trans ((below_alloc w3 (.cells #[.bool bz2, .slice Az2 nz2 cz2] 25)).mono B0.size)
  go_wp2_with fail
  have ha := ha.drew
  have ka := ka.drew
  have z1 := z1.drew
  have k1 := k1.drew
  have z2 := z2.drew
  have k2 := k2.drew
  have B0 := b_drew B0
  go_region_held3 (fun w' => w'.cell? ⟨w.heap.size, 0, none⟩ = some (.bool ba) ∧ w'.cell? ⟨w.heap.size, 1, none⟩ = some (.slice Aa na ca) ∧ w'.cell? ⟨w2.heap.size, 0, none⟩ = some (.bool bz1) ∧ w'.cell? ⟨w2.heap.size, 1, none⟩ = some (.slice Az1 nz1 cz1) ∧ w'.cell? ⟨w3.heap.size, 0, none⟩ = some (.bool bz2) ∧ w'.cell? ⟨w3.heap.size, 1, none⟩ = some (.slice Az2 nz2 cz2)) (first | exact ⟨ka.1, ka.2, k1.1, k1.2, k2.1, k2.2⟩)
    (first
      | (go_at_call 32; (with_reducible refine (itext_i ha ?_ (HT.out.below B0) t HX.out).mono ?_); omega; rintro e w4 ⟨rfl, bb⟩; have ha := ha.below bb; have ka := ka.below bb; have z1 := z1.below bb; have k1 := k1.below bb; have z2 := z2.below bb; have k2 := k2.below bb; have B0 := B0.trans (bb.mono B0.size); clear bb)
      | (go_at_call 33; (with_reducible refine (ritext_i ha ?_ t HX.out).mono ?_); omega; rintro e w5 ⟨rfl, bb⟩; have ha := ha.below bb; have ka := ka.below bb; have z1 := z1.below bb; have k1 := k1.below bb; have z2 := z2.below bb; have k2 := k2.below bb; have B0 := B0.trans (bb.mono B0.size); clear bb)
      | (go_at_call 14; (with_reducible refine (isame_i z1 z2 (rfl)).mono ?_); rintro e w6 ⟨rfl, bb⟩; have ha := ha.below bb; have ka := ka.below bb; have z1 := z1.below bb; have k1 := k1.below bb; have z2 := z2.below bb; have k2 := k2.below bb; have B0 := B0.trans (bb.mono B0.size); clear bb)
      | (go_at_call 13; (with_reducible refine (awake_walk _ (HT.out.below B0)).mono ?_); rintro e w7 ⟨rfl, bb⟩; have ha := ha.below bb; have ka := ka.below bb; have z1 := z1.below bb; have k1 := k1.below bb; have z2 := z2.below bb; have k2 := k2.below bb; have B0 := B0.trans (bb.mono B0.size); clear bb))
  go_wp2
  go_ret
  exact ⟨rfl, B0⟩
theorem integerTexts_walk (w : World) {va : Value} {a : Int} {ka : Nat} (ha : Iv w va a ka) (s : ByteArray) (hs : s.size ≤ maxLen) (ht : Tab w) : Calls Tryd.prog 5 #[va, .string s] w (BoolEnd true w) := by
  unfold maxLen at hs
  obtain ⟨ba, Aa, na, ca, rfl, _, ha⟩ := ha.named
  by_cases la : 40 < na
  · exact integerTexts_long_a w la ht
  by_cases h4 : 400 < s.size
  · exact integerTexts_long_s w (by omega) (by omega) h4 ht
  rcases parse_outs s (by omega) with ⟨code, hp⟩ | ⟨z, hp⟩
  · exact integerTexts_err w ha (by omega) (by omega) code hp ⟨(zdec a).toArray⟩ rfl ht
  · exact integerTexts_ok w ha (by omega) (by omega) z hp ⟨(zdec a).toArray⟩ rfl ht
end Go.Proofs.YthcoemkbdllcfaaDoor
