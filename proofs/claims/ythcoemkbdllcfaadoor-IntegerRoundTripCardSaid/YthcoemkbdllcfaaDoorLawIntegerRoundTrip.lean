/-
  The walk of garmentlaw02.IntegerRoundTrip: it returns true, whatever the integers.
-/
import Derived.Test.YthcoemkbdllcfaaDoorLawA
import Derived.Test.YthcoemkbdllcfaaDoorParseB
import Derived.Test.YthcoemkbdllcfaaDoorRIntT
namespace Go.Proofs.YthcoemkbdllcfaaDoor
open Go.RowKit
attribute [local go_sem ↓] Go.wp_at_zero Go.wp_at_succ
set_option linter.unusedVariables false

set_option maxRecDepth 20000 in
set_option maxHeartbeats 8000000 in
theorem integerRoundTrip_long_a {ba : Bool} {Aa : Option Addr} {na ca : Nat} (w : World) (hl : 40 < na) (ht : Tab w) :
    Calls Tryd.prog 10 #[.agg #[.bool ba, .slice Aa na ca]] w (BoolEnd true w) := by
  have HT := Lib.hid ht
  clear ht
  have B0 := below_a1 w (.cells #[.bool ba, .slice Aa na ca] 25)
  have ka := (Bx.new w (w.heap.size) (by simp) (.bool ba) (.slice Aa na ca))
  go_enter Tryd.func10, Tryd.ntmps10
  have ka0 := ka.1
  have ka1 := ka.2
  go_wp2_with fail
  refine (rshort_no ba Aa na ca _ _ (by omega)).mono ?_
  clear ka0 ka1
  rintro e w1 ⟨rfl, bb⟩
  have ka := ka.below bb
  have B0 := B0.trans (bb.mono B0.size)
  clear bb
  have ka0 := ka.1
  have ka1 := ka.2
  go_wp2_with fail
  refine (awake_walk _ (HT.out.below B0)).mono ?_
  clear ka0 ka1
  rintro e w2 ⟨rfl, bb⟩
  have ka := ka.below bb
  have B0 := B0.trans (bb.mono B0.size)
  clear bb
  go_wp2
  go_ret
  exact ⟨rfl, B0⟩
set_option maxRecDepth 20000 in
set_option maxHeartbeats 8000000 in
theorem integerRoundTrip_m_long {ba : Bool} {Aa : Option Addr} {na ca : Nat} {a : Int} (w : World) (ha : Iv w (.agg #[.bool ba, .slice Aa na ca]) a na) (hl : na ≤ 40) (t d : ByteArray) (htx : t.data.toList = zdec a) (hd : d = digs t) (hb : true = isNeg t) (ht0 : 0 < t.size) (htb : t.size ≤ 1000) (hc : (t[0].toNat : Int) = 45) (hds : t.size = d.size + 1) (hnum : isNum d.data.toList = true) (h5 : 200 < d.size) (ht : Tab w) :
    Calls Tryd.prog 10 #[.agg #[.bool ba, .slice Aa na ca]] w (BoolEnd true w) := by
  have HT := Lib.hid ht
  clear ht
  have HX := Lib.hid htx
  have HD := Lib.hid hd
  have HB := Lib.hid hb
  have HN := Lib.hid hnum
  have hcb : ((t[0].toNat : Int) == 45) = true := by simpa using hc
  have hdz : (t.size : Int) = (d.size : Int) + 1 := by omega
  have HDZ := Lib.hid hdz
  have hpz : (0 : Int) < (t.size : Int) := by omega
  have hdb : d.size ≤ 1000 := by omega
  have hcmp : 200 < (t.size : Int) - 1 := by omega
  clear htx hd hb hnum hds hdz
  have B0 := below_a1 w (.cells #[.bool ba, .slice Aa na ca] 25)
  have ha := ha.below B0
  have ka := (Bx.new w (w.heap.size) (by simp) (.bool ba) (.slice Aa na ca))
  go_enter Tryd.func10, Tryd.ntmps10
  have ka0 := ka.1
  have ka1 := ka.2
  go_wp2_with fail
  refine (rshort_yes ba Aa na ca _ _ (by omega)).mono ?_
  clear ka0 ka1
  rintro e w1 ⟨rfl, bb⟩
  have ha := ha.below bb
  have ka := ka.below bb
  have B0 := B0.trans (bb.mono B0.size)
  clear bb
  have ka0 := ka.1
  have ka1 := ka.2
  go_wp2_with fail
  refine (itext_i ha (by omega) (HT.out.below B0) t HX.out).mono ?_
  clear ka0 ka1
  rintro e w2 ⟨rfl, bb⟩
  have ha := ha.below bb
  have ka := ka.below bb
  have B0 := B0.trans (bb.mono B0.size)
  clear bb
  go_wp2_with fail
  refine (iparse_long t d _ HD.out HB.out _ h5 (by omega)).mono ?_
  rintro e w3 ⟨rfl, bb⟩
  have B0 := B0.trans (bb.mono B0.size)
  clear bb
  have k1 := Bx.new w3 (w3.heap.size) (by simp) (.bool false) (.slice none 0 0)
  have B0 := B0.trans ((below_alloc w3 (.cells #[.bool false, .slice none 0 0] 25)).mono B0.size)
  have k10 := k1.1
  have k11 := k1.2
  go_wp2_with fail
  refine (isame_i (zero_iz _) (zero_iz _) rfl).mono ?_
  clear k10 k11
  rintro e w4 ⟨rfl, bb⟩
  have k1 := k1.below bb
  have B0 := B0.trans (bb.mono B0.size)
  clear bb
  have k10 := k1.1
  have k11 := k1.2
  go_wp2_with fail
  refine (awake_walk _ (HT.out.below B0)).mono ?_
  clear k10 k11
  rintro e w5 ⟨rfl, bb⟩
  have k1 := k1.below bb
  have B0 := B0.trans (bb.mono B0.size)
  clear bb
  go_wp2
  go_ret
  exact ⟨rfl, B0⟩
set_option maxRecDepth 20000 in
set_option maxHeartbeats 8000000 in
theorem integerRoundTrip_m_ok {ba : Bool} {Aa : Option Addr} {na ca : Nat} {a : Int} (w : World) (ha : Iv w (.agg #[.bool ba, .slice Aa na ca]) a na) (hl : na ≤ 40) (t d : ByteArray) (htx : t.data.toList = zdec a) (hd : d = digs t) (hb : true = isNeg t) (ht0 : 0 < t.size) (htb : t.size ≤ 1000) (hc : (t[0].toNat : Int) = 45) (hds : t.size = d.size + 1) (hnum : isNum d.data.toList = true) (h5 : d.size ≤ 200) (hv : a = sgn true (decVal d.data.toList)) (h0 : 0 < decVal d.data.toList) (ht : Tab w) :
    Calls Tryd.prog 10 #[.agg #[.bool ba, .slice Aa na ca]] w (BoolEnd true w) := by
  have HT := Lib.hid ht
  clear ht
  have HX := Lib.hid htx
  have HD := Lib.hid hd
  have HB := Lib.hid hb
  have HN := Lib.hid hnum
  have hcb : ((t[0].toNat : Int) == 45) = true := by simpa using hc
  have hdz : (t.size : Int) = (d.size : Int) + 1 := by omega
  have HDZ := Lib.hid hdz
  have hpz : (0 : Int) < (t.size : Int) := by omega
  have hdb : d.size ≤ 1000 := by omega
  have hcmp : ¬ 200 < (t.size : Int) - 1 := by omega
  clear htx hd hb hnum hds hdz
  have HV := Lib.hid hv
  clear hv
  have H0 := Lib.hid h0
  clear h0
  have B0 := below_a1 w (.cells #[.bool ba, .slice Aa na ca] 25)
  have ha := ha.below B0
  have ka := (Bx.new w (w.heap.size) (by simp) (.bool ba) (.slice Aa na ca))
  go_enter Tryd.func10, Tryd.ntmps10
  have ka0 := ka.1
  have ka1 := ka.2
  go_wp2_with fail
  refine (rshort_yes ba Aa na ca _ _ (by omega)).mono ?_
  clear ka0 ka1
  rintro e w1 ⟨rfl, bb⟩
  have ha := ha.below bb
  have ka := ka.below bb
  have B0 := B0.trans (bb.mono B0.size)
  clear bb
  have ka0 := ka.1
  have ka1 := ka.2
  go_wp2_with fail
  refine (itext_i ha (by omega) (HT.out.below B0) t HX.out).mono ?_
  clear ka0 ka1
  rintro e w2 ⟨rfl, bb⟩
  have ha := ha.below bb
  have ka := ka.below bb
  have B0 := B0.trans (bb.mono B0.size)
  clear bb
  have ka0 := ka.1
  have ka1 := ka.2
  go_wp2_with fail
  refine (iparse_m t d HD.out HB.out _ h5 HN.out H0.out).mono ?_
  clear ka0 ka1
  rintro e w3 ⟨v1, rfl, z1, bb⟩
  have ha := ha.below bb
  have ka := ka.below bb
  have B0 := B0.trans (bb.mono B0.size)
  clear bb
  rw [← HV.out] at z1
  obtain ⟨bz1, Az1, nz1, cz1, rfl, z1⟩ := z1.cells
  have ha := ha.below (below_alloc w3 (.cells #[.bool bz1, .slice Az1 nz1 cz1] 25))
  have ka := ka.below (below_alloc w3 (.cells #[.bool bz1, .slice Az1 nz1 cz1] 25))
  have z1 := z1.below (below_alloc w3 (.cells #[.bool bz1, .slice Az1 nz1 cz1] 25))
  have k1 := Bx.new w3 (w3.heap.size) (by simp) (.bool bz1) (.slice Az1 nz1 cz1)
  have B0 := B0.trans ((below_alloc w3 (.cells #[.bool bz1, .slice Az1 nz1 cz1] 25)).mono B0.size)
  go_wp2_with fail
  have ha := ha.drew
  have ka := ka.drew
  have z1 := z1.drew
  have k1 := k1.drew
  have B0 := b_drew B0
  go_region_held3 (fun w' => w'.cell? ⟨w.heap.size, 0, none⟩ = some (.bool ba) ∧ w'.cell? ⟨w.heap.size, 1, none⟩ = some (.slice Aa na ca) ∧ w'.cell? ⟨w3.heap.size, 0, none⟩ = some (.bool bz1) ∧ w'.cell? ⟨w3.heap.size, 1, none⟩ = some (.slice Az1 nz1 cz1)) (first | exact ⟨ka.1, ka.2, k1.1, k1.2⟩)
    (first
      | (go_at_call 15; (with_reducible refine (inorm_i ha ?_).mono ?_); omega; rintro e w4 ⟨v2, rfl, z2, bb⟩; have ha := ha.below bb; have ka := ka.below bb; have z1 := z1.below bb; have k1 := k1.below bb; have B0 := B0.trans (bb.mono B0.size); clear bb)
      | (go_at_call 14; (with_reducible refine (isame_i z1 z2 (rfl)).mono ?_); rintro e w5 ⟨rfl, bb⟩; have ha := ha.below bb; have ka := ka.below bb; have z1 := z1.below bb; have k1 := k1.below bb; have z2 := z2.below bb; have B0 := B0.trans (bb.mono B0.size); clear bb)
      | (go_at_call 32; (with_reducible refine (itext_i z1.iv ?_ (HT.out.below B0) t HX.out).mono ?_); omega; rintro e w6 ⟨rfl, bb⟩; have ha := ha.below bb; have ka := ka.below bb; have z1 := z1.below bb; have k1 := k1.below bb; have B0 := B0.trans (bb.mono B0.size); clear bb)
      | (go_at_call 13; (with_reducible refine (awake_walk _ (HT.out.below B0)).mono ?_); rintro e w7 ⟨rfl, bb⟩; have ha := ha.below bb; have ka := ka.below bb; have z1 := z1.below bb; have k1 := k1.below bb; have B0 := B0.trans (bb.mono B0.size); clear bb))
  go_wp2
  go_ret
  exact ⟨rfl, B0⟩
set_option maxRecDepth 20000 in
set_option maxHeartbeats 8000000 in
theorem integerRoundTrip_p_long {ba : Bool} {Aa : Option Addr} {na ca : Nat} {a : Int} (w : World) (ha : Iv w (.agg #[.bool ba, .slice Aa na ca]) a na) (hl : na ≤ 40) (t d : ByteArray) (htx : t.data.toList = zdec a) (hd : d = digs t) (hb : false = isNeg t) (ht0 : 0 < t.size) (htb : t.size ≤ 1000) (hc : (t[0].toNat : Int) ≠ 45) (hds : t.size = d.size) (hnum : isNum d.data.toList = true) (h5 : 200 < d.size) (ht : Tab w) :
    Calls Tryd.prog 10 #[.agg #[.bool ba, .slice Aa na ca]] w (BoolEnd true w) := by
  have HT := Lib.hid ht
  clear ht
  have HX := Lib.hid htx
  have HD := Lib.hid hd
  have HB := Lib.hid hb
  have HN := Lib.hid hnum
  have hcb : ((t[0].toNat : Int) == 45) = false := by simpa using hc
  have hdz : (t.size : Int) = (d.size : Int) := by omega
  have HDZ := Lib.hid hdz
  have hpz : (0 : Int) < (t.size : Int) := by omega
  have hdb : d.size ≤ 1000 := by omega
  have hcmp : 200 < (t.size : Int) := by omega
  clear htx hd hb hnum hds hdz
  have B0 := below_a1 w (.cells #[.bool ba, .slice Aa na ca] 25)
  have ha := ha.below B0
  have ka := (Bx.new w (w.heap.size) (by simp) (.bool ba) (.slice Aa na ca))
  go_enter Tryd.func10, Tryd.ntmps10
  have ka0 := ka.1
  have ka1 := ka.2
  go_wp2_with fail
  refine (rshort_yes ba Aa na ca _ _ (by omega)).mono ?_
  clear ka0 ka1
  rintro e w1 ⟨rfl, bb⟩
  have ha := ha.below bb
  have ka := ka.below bb
  have B0 := B0.trans (bb.mono B0.size)
  clear bb
  have ka0 := ka.1
  have ka1 := ka.2
  go_wp2_with fail
  refine (itext_i ha (by omega) (HT.out.below B0) t HX.out).mono ?_
  clear ka0 ka1
  rintro e w2 ⟨rfl, bb⟩
  have ha := ha.below bb
  have ka := ka.below bb
  have B0 := B0.trans (bb.mono B0.size)
  clear bb
  go_wp2_with fail
  refine (iparse_long t d _ HD.out HB.out _ h5 (by omega)).mono ?_
  rintro e w3 ⟨rfl, bb⟩
  have B0 := B0.trans (bb.mono B0.size)
  clear bb
  have k1 := Bx.new w3 (w3.heap.size) (by simp) (.bool false) (.slice none 0 0)
  have B0 := B0.trans ((below_alloc w3 (.cells #[.bool false, .slice none 0 0] 25)).mono B0.size)
  have k10 := k1.1
  have k11 := k1.2
  go_wp2_with fail
  refine (isame_i (zero_iz _) (zero_iz _) rfl).mono ?_
  clear k10 k11
  rintro e w4 ⟨rfl, bb⟩
  have k1 := k1.below bb
  have B0 := B0.trans (bb.mono B0.size)
  clear bb
  have k10 := k1.1
  have k11 := k1.2
  go_wp2_with fail
  refine (awake_walk _ (HT.out.below B0)).mono ?_
  clear k10 k11
  rintro e w5 ⟨rfl, bb⟩
  have k1 := k1.below bb
  have B0 := B0.trans (bb.mono B0.size)
  clear bb
  go_wp2
  go_ret
  exact ⟨rfl, B0⟩
set_option maxRecDepth 20000 in
set_option maxHeartbeats 8000000 in
theorem integerRoundTrip_p_ok {ba : Bool} {Aa : Option Addr} {na ca : Nat} {a : Int} (w : World) (ha : Iv w (.agg #[.bool ba, .slice Aa na ca]) a na) (hl : na ≤ 40) (t d : ByteArray) (htx : t.data.toList = zdec a) (hd : d = digs t) (hb : false = isNeg t) (ht0 : 0 < t.size) (htb : t.size ≤ 1000) (hc : (t[0].toNat : Int) ≠ 45) (hds : t.size = d.size) (hnum : isNum d.data.toList = true) (h5 : d.size ≤ 200) (hv : a = sgn false (decVal d.data.toList)) (ht : Tab w) :
    Calls Tryd.prog 10 #[.agg #[.bool ba, .slice Aa na ca]] w (BoolEnd true w) := by
  have HT := Lib.hid ht
  clear ht
  have HX := Lib.hid htx
  have HD := Lib.hid hd
  have HB := Lib.hid hb
  have HN := Lib.hid hnum
  have hcb : ((t[0].toNat : Int) == 45) = false := by simpa using hc
  have hdz : (t.size : Int) = (d.size : Int) := by omega
  have HDZ := Lib.hid hdz
  have hpz : (0 : Int) < (t.size : Int) := by omega
  have hdb : d.size ≤ 1000 := by omega
  have hcmp : ¬ 200 < (t.size : Int) := by omega
  clear htx hd hb hnum hds hdz
  have HV := Lib.hid hv
  clear hv
  have B0 := below_a1 w (.cells #[.bool ba, .slice Aa na ca] 25)
  have ha := ha.below B0
  have ka := (Bx.new w (w.heap.size) (by simp) (.bool ba) (.slice Aa na ca))
  go_enter Tryd.func10, Tryd.ntmps10
  have ka0 := ka.1
  have ka1 := ka.2
  go_wp2_with fail
  refine (rshort_yes ba Aa na ca _ _ (by omega)).mono ?_
  clear ka0 ka1
  rintro e w1 ⟨rfl, bb⟩
  have ha := ha.below bb
  have ka := ka.below bb
  have B0 := B0.trans (bb.mono B0.size)
  clear bb
  have ka0 := ka.1
  have ka1 := ka.2
  go_wp2_with fail
  refine (itext_i ha (by omega) (HT.out.below B0) t HX.out).mono ?_
  clear ka0 ka1
  rintro e w2 ⟨rfl, bb⟩
  have ha := ha.below bb
  have ka := ka.below bb
  have B0 := B0.trans (bb.mono B0.size)
  clear bb
  have ka0 := ka.1
  have ka1 := ka.2
  go_wp2_with fail
  refine (iparse_p t d HD.out HB.out _ h5 HN.out).mono ?_
  clear ka0 ka1
  rintro e w3 ⟨v1, rfl, z1, bb⟩
  have ha := ha.below bb
  have ka := ka.below bb
  have B0 := B0.trans (bb.mono B0.size)
  clear bb
  rw [← HV.out] at z1
  obtain ⟨bz1, Az1, nz1, cz1, rfl, z1⟩ := z1.cells
  have ha := ha.below (below_alloc w3 (.cells #[.bool bz1, .slice Az1 nz1 cz1] 25))
  have ka := ka.below (below_alloc w3 (.cells #[.bool bz1, .slice Az1 nz1 cz1] 25))
  have z1 := z1.below (below_alloc w3 (.cells #[.bool bz1, .slice Az1 nz1 cz1] 25))
  have k1 := Bx.new w3 (w3.heap.size) (by simp) (.bool bz1) (.slice Az1 nz1 cz1)
  have B0 := B0.trans ((below_alloc w3 (.cells #[.bool bz1, .slice Az1 nz1 cz1] 25)).mono B0.size)
  go_wp2_with fail
  have ha := ha.drew
  have ka := ka.drew
  have z1 := z1.drew
  have k1 := k1.drew
  have B0 := b_drew B0
  go_region_held3 (fun w' => w'.cell? ⟨w.heap.size, 0, none⟩ = some (.bool ba) ∧ w'.cell? ⟨w.heap.size, 1, none⟩ = some (.slice Aa na ca) ∧ w'.cell? ⟨w3.heap.size, 0, none⟩ = some (.bool bz1) ∧ w'.cell? ⟨w3.heap.size, 1, none⟩ = some (.slice Az1 nz1 cz1)) (first | exact ⟨ka.1, ka.2, k1.1, k1.2⟩)
    (first
      | (go_at_call 15; (with_reducible refine (inorm_i ha ?_).mono ?_); omega; rintro e w4 ⟨v2, rfl, z2, bb⟩; have ha := ha.below bb; have ka := ka.below bb; have z1 := z1.below bb; have k1 := k1.below bb; have B0 := B0.trans (bb.mono B0.size); clear bb)
      | (go_at_call 14; (with_reducible refine (isame_i z1 z2 (rfl)).mono ?_); rintro e w5 ⟨rfl, bb⟩; have ha := ha.below bb; have ka := ka.below bb; have z1 := z1.below bb; have k1 := k1.below bb; have z2 := z2.below bb; have B0 := B0.trans (bb.mono B0.size); clear bb)
      | (go_at_call 32; (with_reducible refine (itext_i z1.iv ?_ (HT.out.below B0) t HX.out).mono ?_); omega; rintro e w6 ⟨rfl, bb⟩; have ha := ha.below bb; have ka := ka.below bb; have z1 := z1.below bb; have k1 := k1.below bb; have B0 := B0.trans (bb.mono B0.size); clear bb)
      | (go_at_call 13; (with_reducible refine (awake_walk _ (HT.out.below B0)).mono ?_); rintro e w7 ⟨rfl, bb⟩; have ha := ha.below bb; have ka := ka.below bb; have z1 := z1.below bb; have k1 := k1.below bb; have B0 := B0.trans (bb.mono B0.size); clear bb))
  go_wp2
  go_ret
  exact ⟨rfl, B0⟩
theorem integerRoundTrip_walk (w : World) {va : Value} {a : Int} {ka : Nat} (ha : Iv w va a ka) (ht : Tab w) : Calls Tryd.prog 10 #[va] w (BoolEnd true w) := by
  obtain ⟨ba, Aa, na, ca, rfl, _, ha⟩ := ha.named
  by_cases la : 40 < na
  · exact integerRoundTrip_long_a w la ht
  obtain ⟨u, hu⟩ : ∃ u : ByteArray, u.data.toList = Lib.decDigits a.natAbs := ⟨⟨(Lib.decDigits a.natAbs).toArray⟩, rfl⟩
  have hus : u.size ≤ 10 * na + 1 := by
    obtain ⟨b, A, n, c, m, e, hm, hz⟩ := ha
    refine text_size hm.lt ?_
    rw [hu, hz, sgn_abs]
  have hup : 0 < u.size := by
    have h1 := Txt.dec_ne a.natAbs
    rw [← hu] at h1
    have h2 : u.data.toList.length = u.size := by simp
    have h3 := List.length_pos_iff.2 h1
    omega
  have hun : isNum u.data.toList = true := by rw [hu]; exact Txt.dec_isNum _
  have huv : decVal u.data.toList = a.natAbs := by rw [hu]; exact Txt.read_dec _
  by_cases h0 : a < 0
  · obtain ⟨t, ht'⟩ : ∃ t : ByteArray, t = ⟨#[45]⟩ ++ u := ⟨_, rfl⟩
    have e : t.data.toList = 45 :: u.data.toList := by rw [ht']; simp
    have htz : t.size = u.size + 1 := by
      have h1 : t.data.toList.length = t.size := by simp
      have h2 : u.data.toList.length = u.size := by simp
      rw [← h1, e, ← h2]
      rfl
    have htp : 0 < t.size := by omega
    have hc : (t[0].toNat : Int) = 45 := by
      obtain ⟨tl, e2⟩ := head_cons t htp
      rw [e2] at e
      injection e with e3 _
      rw [e3]
      rfl
    have hn := neg_n t htp hc
    have hd : u = digs t := by
      rw [← hn.1]
      exact bytes_ext (by rw [Lib.extract_to_end, e]; rfl)
    have htx : t.data.toList = zdec a := by rw [zdec, if_pos h0, e, hu]
    by_cases h5 : 200 < u.size
    · exact integerRoundTrip_m_long w ha (by omega) t u htx hd hn.2 htp (by omega) hc htz hun h5 ht
    · exact integerRoundTrip_m_ok w ha (by omega) t u htx hd hn.2 htp (by omega) hc htz hun (by omega) (by rw [huv, sgn_true]; omega) (by rw [huv]; omega) ht
  · have htx : u.data.toList = zdec a := by rw [zdec, if_neg h0, hu]
    have hc : (u[0].toNat : Int) ≠ 45 := by
      have h1 := byte_at u 0 hup
      have h2 := (isNum_dgt hun h1).1
      omega
    have hn := neg_p u hup hc
    by_cases h5 : 200 < u.size
    · exact integerRoundTrip_p_long w ha (by omega) u u htx hn.1 hn.2 hup (by omega) hc rfl hun h5 ht
    · exact integerRoundTrip_p_ok w ha (by omega) u u htx hn.1 hn.2 hup (by omega) hc rfl hun (by omega) (by rw [huv, sgn_false]; omega) ht
end Go.Proofs.YthcoemkbdllcfaaDoor
