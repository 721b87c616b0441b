/-
  The walk of garmentlaw02.IntegerInts: it returns true, whatever the integers.
-/
import Derived.Test.YthcoemkbdllcfaaDoorLawA
namespace Go.Proofs.YthcoemkbdllcfaaDoor
open Go.RowKit
attribute [local go_sem ↓] Go.wp_at_zero Go.wp_at_succ
set_option linter.unusedVariables false

set_option maxRecDepth 20000 in
set_option maxHeartbeats 8000000 in
theorem integerInts_long_a {ba : Bool} {Aa : Option Addr} {na ca : Nat} (w : World) {n : Int} (hl : 40 < na) (ht : Tab w) :
    Calls Tryd.prog 6 #[.int .i64 n, .agg #[.bool ba, .slice Aa na ca]] w (BoolEnd true w) := by
  have HT := Lib.hid ht
  clear ht
  have B0 := below_a1 w (.cells #[.bool ba, .slice Aa na ca] 25)
  have ka := (Bx.new w (w.heap.size) (by simp) (.bool ba) (.slice Aa na ca))
  go_enter Tryd.func6, Tryd.ntmps6
  have ka0 := ka.1
  have ka1 := ka.2
  go_wp2_with fail
  refine (rshort_no ba Aa na ca _ _ (by omega)).mono ?_
  clear ka0 ka1
  rintro e w1 ⟨rfl, bb⟩
  have ka := ka.below bb
  have B0 := B0.trans (bb.mono B0.size)
  clear bb
  have ka0 := ka.1
  have ka1 := ka.2
  go_wp2_with fail
  refine (awake_walk _ (HT.out.below B0)).mono ?_
  clear ka0 ka1
  rintro e w2 ⟨rfl, bb⟩
  have ka := ka.below bb
  have B0 := B0.trans (bb.mono B0.size)
  clear bb
  go_wp2
  go_ret
  exact ⟨rfl, B0⟩
set_option maxRecDepth 20000 in
set_option maxHeartbeats 8000000 in
theorem integerInts_yes {ba : Bool} {Aa : Option Addr} {na ca : Nat} {a : Int} (w : World) {n : Int} (ha : Iv w (.agg #[.bool ba, .slice Aa na ca]) a na) (hl : na ≤ 40) (hn1 : -9223372036854775808 ≤ n) (hn2 : n < 9223372036854775808) (h1 : -9223372036854775808 ≤ a) (h2 : a ≤ 9223372036854775807) (ht : Tab w) :
    Calls Tryd.prog 6 #[.int .i64 n, .agg #[.bool ba, .slice Aa na ca]] w (BoolEnd true w) := by
  have HT := Lib.hid ht
  clear ht
  have H1 := Lib.hid h1
  clear h1
  have H2 := Lib.hid h2
  clear h2
  have B0 := below_a1 w (.cells #[.bool ba, .slice Aa na ca] 25)
  have ha := ha.below B0
  have ka := (Bx.new w (w.heap.size) (by simp) (.bool ba) (.slice Aa na ca))
  go_enter Tryd.func6, Tryd.ntmps6
  have ka0 := ka.1
  have ka1 := ka.2
  go_wp2_with fail
  refine (rshort_yes ba Aa na ca _ _ (by omega)).mono ?_
  clear ka0 ka1
  rintro e w1 ⟨rfl, bb⟩
  have ha := ha.below bb
  have ka := ka.below bb
  have B0 := B0.trans (bb.mono B0.size)
  clear bb
  have ka0 := ka.1
  have ka1 := ka.2
  go_wp2_with fail
  refine (ismall_yes ha (by omega) H1.out H2.out).mono ?_
  clear ka0 ka1
  rintro e w2 ⟨rfl, bb⟩
  have ha := ha.below bb
  have ka := ka.below bb
  have B0 := B0.trans (bb.mono B0.size)
  clear bb
  have ka0 := ka.1
  have ka1 := ka.2
  go_wp2_with fail
  refine (rismall_yes ha (by omega) H1.out H2.out).mono ?_
  clear ka0 ka1
  rintro e w3 ⟨rfl, bb⟩
  have ha := ha.below bb
  have ka := ka.below bb
  have B0 := B0.trans (bb.mono B0.size)
  clear bb
  go_wp2_with fail
  refine (iof_i n hn1 hn2 _).mono ?_
  rintro e w4 ⟨v1, rfl, z1, bb⟩
  have B0 := B0.trans (bb.mono B0.size)
  clear bb
  go_wp2_with fail
  refine (ismall_yes z1.iv (by omega) hn1 (by omega)).mono ?_
  rintro e w5 ⟨rfl, bb⟩
  have z1 := z1.below bb
  have B0 := B0.trans (bb.mono B0.size)
  clear bb
  go_wp2_with fail
  refine (iof_i n hn1 hn2 _).mono ?_
  rintro e w6 ⟨v2, rfl, z2, bb⟩
  have B0 := B0.trans (bb.mono B0.size)
  clear bb
  go_wp2_with fail
  refine (riof_i n hn1 hn2 _).mono ?_
  rintro e w7 ⟨v3, rfl, z3, bb⟩
  have z2 := z2.below bb
  have B0 := B0.trans (bb.mono B0.size)
  clear bb
  go_wp2_with fail
  refine (isame_i z2 z3 rfl).mono ?_
  rintro e w8 ⟨rfl, bb⟩
  have z2 := z2.below bb
  have z3 := z3.below bb
  have B0 := B0.trans (bb.mono B0.size)
  clear bb
  go_wp2_with fail
  refine (awake_walk _ (HT.out.below B0)).mono ?_
  rintro e w9 ⟨rfl, bb⟩
  have B0 := B0.trans (bb.mono B0.size)
  clear bb
  go_wp2
  go_ret
  exact ⟨rfl, B0⟩
set_option maxRecDepth 20000 in
set_option maxHeartbeats 8000000 in
theorem integerInts_no {ba : Bool} {Aa : Option Addr} {na ca : Nat} {a : Int} (w : World) {n : Int} (ha : Iv w (.agg #[.bool ba, .slice Aa na ca]) a na) (hl : na ≤ 40) (hn1 : -9223372036854775808 ≤ n) (hn2 : n < 9223372036854775808) (h1 : a < -9223372036854775808 ∨ 9223372036854775807 < a) (ht : Tab w) :
    Calls Tryd.prog 6 #[.int .i64 n, .agg #[.bool ba, .slice Aa na ca]] w (BoolEnd true w) := by
  have HT := Lib.hid ht
  clear ht
  have H1 := Lib.hid h1
  clear h1
  have B0 := below_a1 w (.cells #[.bool ba, .slice Aa na ca] 25)
  have ha := ha.below B0
  have ka := (Bx.new w (w.heap.size) (by simp) (.bool ba) (.slice Aa na ca))
  go_enter Tryd.func6, Tryd.ntmps6
  have ka0 := ka.1
  have ka1 := ka.2
  go_wp2_with fail
  refine (rshort_yes ba Aa na ca _ _ (by omega)).mono ?_
  clear ka0 ka1
  rintro e w1 ⟨rfl, bb⟩
  have ha := ha.below bb
  have ka := ka.below bb
  have B0 := B0.trans (bb.mono B0.size)
  clear bb
  have ka0 := ka.1
  have ka1 := ka.2
  go_wp2_with fail
  refine (ismall_no ha (by omega) H1.out).mono ?_
  clear ka0 ka1
  rintro e w2 ⟨rfl, bb⟩
  have ha := ha.below bb
  have ka := ka.below bb
  have B0 := B0.trans (bb.mono B0.size)
  clear bb
  have ka0 := ka.1
  have ka1 := ka.2
  go_wp2_with fail
  refine (rismall_no ha (by omega) H1.out).mono ?_
  clear ka0 ka1
  rintro e w3 ⟨rfl, bb⟩
  have ha := ha.below bb
  have ka := ka.below bb
  have B0 := B0.trans (bb.mono B0.size)
  clear bb
  go_wp2_with fail
  refine (iof_i n hn1 hn2 _).mono ?_
  rintro e w4 ⟨v1, rfl, z1, bb⟩
  have B0 := B0.trans (bb.mono B0.size)
  clear bb
  go_wp2_with fail
  refine (ismall_yes z1.iv (by omega) hn1 (by omega)).mono ?_
  rintro e w5 ⟨rfl, bb⟩
  have z1 := z1.below bb
  have B0 := B0.trans (bb.mono B0.size)
  clear bb
  go_wp2_with fail
  refine (iof_i n hn1 hn2 _).mono ?_
  rintro e w6 ⟨v2, rfl, z2, bb⟩
  have B0 := B0.trans (bb.mono B0.size)
  clear bb
  go_wp2_with fail
  refine (riof_i n hn1 hn2 _).mono ?_
  rintro e w7 ⟨v3, rfl, z3, bb⟩
  have z2 := z2.below bb
  have B0 := B0.trans (bb.mono B0.size)
  clear bb
  go_wp2_with fail
  refine (isame_i z2 z3 rfl).mono ?_
  rintro e w8 ⟨rfl, bb⟩
  have z2 := z2.below bb
  have z3 := z3.below bb
  have B0 := B0.trans (bb.mono B0.size)
  clear bb
  go_wp2_with fail
  refine (awake_walk _ (HT.out.below B0)).mono ?_
  rintro e w9 ⟨rfl, bb⟩
  have B0 := B0.trans (bb.mono B0.size)
  clear bb
  go_wp2
  go_ret
  exact ⟨rfl, B0⟩
theorem integerInts_walk (w : World) (n : Int) (hn1 : -9223372036854775808 ≤ n) (hn2 : n < 9223372036854775808) {va : Value} {a : Int} {ka : Nat} (ha : Iv w va a ka) (ht : Tab w) : Calls Tryd.prog 6 #[.int .i64 n, va] w (BoolEnd true w) := by
  obtain ⟨ba, Aa, na, ca, rfl, _, ha⟩ := ha.named
  by_cases la : 40 < na
  · exact integerInts_long_a w la ht
  by_cases h1 : -9223372036854775808 ≤ a ∧ a ≤ 9223372036854775807
  · exact integerInts_yes w ha (by omega) hn1 hn2 h1.1 h1.2 ht
  · exact integerInts_no w ha (by omega) hn1 hn2 (by omega) ht
end Go.Proofs.YthcoemkbdllcfaaDoor
