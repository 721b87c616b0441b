/-
  The walk of measure's formatValue.
-/
import Derived.Test.YtohlilgnognmgaaGreatDoorMeaF
import Derived.Test.YtohlilgnognmgaaGreatDoorRatC
namespace Go.Proofs.YtohlilgnognmgaaGreatDoor
open Go.RowKit Mea
attribute [local go_sem ↓] Go.wp_at_zero Go.wp_at_succ
set_option linter.unusedVariables false

/-- A text and true, or no text and false. -/
def SbEnd (s : ByteArray) (f : Bool) (w : World) (e : Ending) (w' : World) : Prop := e = .returned (.tuple #[.string s, .bool f]) ∧ Below w.heap.size w w'
set_option maxRecDepth 20000 in
set_option maxHeartbeats 2000000 in
theorem fval_big {b : Bool} {A : Option Addr} {n c : Nat} {B : Option Addr} {m c' k j : Nat} (x p d : Nat) (w : World) (ia : Iz w (.agg #[.bool b, .slice A n c]) (p : Int) k) (nd : Nz w (.slice B m c') d j) (hk : k ≤ 900) (hj : j ≤ 900) (y : Int) (f : Bool) (hs : ∀ w', Iz w' (.agg #[.bool b, .slice A n c]) (p : Int) k → Calls Tryz.prog 25 #[.agg #[.bool b, .slice A n c]] w' (SmallEnd y f w')) (hd : 9223372036854775807 < d) : Calls Tryz.prog 32 #[.int .i64 (x : Int), .agg #[.bool b, .slice A n c, .slice B m c']] w (SbEnd ⟨#[]⟩ false w) := by
  have HS := Lib.hid hs
  clear hs
  have HD := Lib.hid hd
  clear hd
  have B0 := below_a1 w (.cells #[.bool b, .slice A n c, .slice B m c'] 27)
  have ia := ia.below B0
  have nd := nd.below B0
  have ka := (Bq.new w (w.heap.size) (by simp) (.bool b) (.slice A n c) (.slice B m c'))
  go_enter Tryz.func32, Tryz.ntmps32
  have ka_0 := ka.c0
  have ka_1 := ka.c1
  have ka_2 := ka.c2
  go_wp2_with fail
  refine (HS.out _ ia).mono ?_
  clear ka_0 ka_1 ka_2
  rintro e w1 ⟨rfl, bb⟩
  have ia := ia.below bb
  have nd := nd.below bb
  have ka := ka.below bb
  have B0 := B0.trans (bb.mono B0.size)
  clear bb
  have ka_0 := ka.c0
  have ka_1 := ka.c1
  have ka_2 := ka.c2
  go_wp2_with fail
  refine (ismall_no nd.iv0 (by omega) (by have := HD.out; omega)).mono ?_
  clear ka_0 ka_1 ka_2
  rintro e w2 ⟨rfl, bb⟩
  have ia := ia.below bb
  have nd := nd.below bb
  have ka := ka.below bb
  have B0 := B0.trans (bb.mono B0.size)
  clear bb
  go_wp2
  go_ret2
  exact ⟨rfl, B0⟩
set_option maxRecDepth 20000 in
set_option maxHeartbeats 2000000 in
theorem fval_dec {b : Bool} {A : Option Addr} {n c : Nat} {B : Option Addr} {m c' k j : Nat} (x p d : Nat) (w : World) (ia : Iz w (.agg #[.bool b, .slice A n c]) (p : Int) k) (nd : Nz w (.slice B m c') d j) (hk : k ≤ 900) (hj : j ≤ 900) (hp : p ≤ 9999) (hd : 0 < d) (hd' : d ≤ 10000) (ht : Tab w) (r q : Nat) (hr : (10000 : Int).tmod (d : Int) = 0) (hq : (10000 : Int).tdiv (d : Int) = (q : Int)) (hpq : p * q ≤ 9999) (hq9 : q ≤ 10000) (v : ByteArray) (hv : ∀ w, Tab w → Calls Tryz.prog 64 #[.int .i64 (x : Int), .int .i64 ((p * q : Nat) : Int)] w (StrEnd v w)) : Calls Tryz.prog 32 #[.int .i64 (x : Int), .agg #[.bool b, .slice A n c, .slice B m c']] w (SbEnd v true w) := by
  have HT := Lib.hid ht
  clear ht
  have HV := Lib.hid hv
  clear hv
  have hd0 : ¬ (d : Int) = 0 := by omega
  have e1 : wrap64 ((p : Int) * (q : Int)) = ((p * q : Nat) : Int) := by
    have e : (((p * q : Nat)) : Int) = (p : Int) * (q : Int) := by push_cast; rfl
    rw [← e]; unfold wrap64; omega
  have e2 : wrap64 (q : Int) = (q : Int) := by unfold wrap64; omega
  have B0 := below_a1 w (.cells #[.bool b, .slice A n c, .slice B m c'] 27)
  have ia := ia.below B0
  have nd := nd.below B0
  have ka := (Bq.new w (w.heap.size) (by simp) (.bool b) (.slice A n c) (.slice B m c'))
  go_enter Tryz.func32, Tryz.ntmps32
  have ka_0 := ka.c0
  have ka_1 := ka.c1
  have ka_2 := ka.c2
  go_wp2_with fail
  refine (ismall_yes ia.iv (by omega) (by omega) (by omega)).mono ?_
  clear ka_0 ka_1 ka_2
  rintro e w1 ⟨rfl, bb⟩
  have ia := ia.below bb
  have nd := nd.below bb
  have ka := ka.below bb
  have B0 := B0.trans (bb.mono B0.size)
  clear bb
  have ka_0 := ka.c0
  have ka_1 := ka.c1
  have ka_2 := ka.c2
  go_wp2_with fail
  refine (ismall_yes nd.iv0 (by omega) (by omega) (by omega)).mono ?_
  clear ka_0 ka_1 ka_2
  rintro e w2 ⟨rfl, bb⟩
  have ia := ia.below bb
  have nd := nd.below bb
  have ka := ka.below bb
  have B0 := B0.trans (bb.mono B0.size)
  clear bb
  have ka_0 := ka.c0
  have ka_1 := ka.c1
  have ka_2 := ka.c2
  go_wp2_with fail
  refine (HV.out _ (HT.out.below B0)).mono ?_
  clear ka_0 ka_1 ka_2
  rintro e w3 ⟨rfl, bb⟩
  have ia := ia.below bb
  have nd := nd.below bb
  have ka := ka.below bb
  have B0 := B0.trans (bb.mono B0.size)
  clear bb
  go_wp2
  go_ret2
  exact ⟨rfl, B0⟩
set_option maxRecDepth 20000 in
set_option maxHeartbeats 2000000 in
theorem fval_frac {b : Bool} {A : Option Addr} {n c : Nat} {B : Option Addr} {m c' k j : Nat} (x p d : Nat) (w : World) (ia : Iz w (.agg #[.bool b, .slice A n c]) (p : Int) k) (nd : Nz w (.slice B m c') d j) (hk : k ≤ 900) (hj : j ≤ 900) (hp : p ≤ 9223372036854775807) (hd : 0 < d) (hd' : d ≤ 9223372036854775807) (hr : ((10000 : Int) % (d : Int) == 0) = false) (h9 : decide ((d : Int) ≤ 999) = true) (ht : Tab w) (v : ByteArray) (hv : ∀ w, Tab w → Calls Tryz.prog 65 #[.int .i64 (x : Int), .int .i64 (p : Int), .int .i64 (d : Int)] w (StrEnd v w)) : Calls Tryz.prog 32 #[.int .i64 (x : Int), .agg #[.bool b, .slice A n c, .slice B m c']] w (SbEnd v true w) := by
  have HT := Lib.hid ht
  clear ht
  have HV := Lib.hid hv
  clear hv
  have hd0 : ¬ (d : Int) = 0 := by omega
  have HP := Lib.hid hp
  have HD := Lib.hid hd'
  clear hp hd'
  have B0 := below_a1 w (.cells #[.bool b, .slice A n c, .slice B m c'] 27)
  have ia := ia.below B0
  have nd := nd.below B0
  have ka := (Bq.new w (w.heap.size) (by simp) (.bool b) (.slice A n c) (.slice B m c'))
  go_enter Tryz.func32, Tryz.ntmps32
  have ka_0 := ka.c0
  have ka_1 := ka.c1
  have ka_2 := ka.c2
  go_wp2_with fail
  refine (ismall_yes ia.iv (by omega) (by omega) (by have := HP.out; omega)).mono ?_
  clear ka_0 ka_1 ka_2
  rintro e w1 ⟨rfl, bb⟩
  have ia := ia.below bb
  have nd := nd.below bb
  have ka := ka.below bb
  have B0 := B0.trans (bb.mono B0.size)
  clear bb
  have ka_0 := ka.c0
  have ka_1 := ka.c1
  have ka_2 := ka.c2
  go_wp2_with fail
  refine (ismall_yes nd.iv0 (by omega) (by omega) (by have := HD.out; omega)).mono ?_
  clear ka_0 ka_1 ka_2
  rintro e w2 ⟨rfl, bb⟩
  have ia := ia.below bb
  have nd := nd.below bb
  have ka := ka.below bb
  have B0 := B0.trans (bb.mono B0.size)
  clear bb
  have ka_0 := ka.c0
  have ka_1 := ka.c1
  have ka_2 := ka.c2
  go_wp2_with fail
  refine (HV.out _ (HT.out.below B0)).mono ?_
  clear ka_0 ka_1 ka_2
  rintro e w3 ⟨rfl, bb⟩
  have ia := ia.below bb
  have nd := nd.below bb
  have ka := ka.below bb
  have B0 := B0.trans (bb.mono B0.size)
  clear bb
  go_wp2
  go_ret2
  exact ⟨rfl, B0⟩
set_option maxRecDepth 20000 in
set_option maxHeartbeats 2000000 in
theorem fval_none {b : Bool} {A : Option Addr} {n c : Nat} {B : Option Addr} {m c' k j : Nat} (x p d : Nat) (w : World) (ia : Iz w (.agg #[.bool b, .slice A n c]) (p : Int) k) (nd : Nz w (.slice B m c') d j) (hk : k ≤ 900) (hj : j ≤ 900) (hp : p ≤ 9223372036854775807) (hd : 0 < d) (hd' : d ≤ 9223372036854775807) (hr : ((10000 : Int) % (d : Int) == 0) = false) (h9 : decide ((d : Int) ≤ 999) = false) : Calls Tryz.prog 32 #[.int .i64 (x : Int), .agg #[.bool b, .slice A n c, .slice B m c']] w (SbEnd ⟨#[]⟩ false w) := by
  have hd0 : ¬ (d : Int) = 0 := by omega
  have HP := Lib.hid hp
  have HD := Lib.hid hd'
  clear hp hd'
  have B0 := below_a1 w (.cells #[.bool b, .slice A n c, .slice B m c'] 27)
  have ia := ia.below B0
  have nd := nd.below B0
  have ka := (Bq.new w (w.heap.size) (by simp) (.bool b) (.slice A n c) (.slice B m c'))
  go_enter Tryz.func32, Tryz.ntmps32
  have ka_0 := ka.c0
  have ka_1 := ka.c1
  have ka_2 := ka.c2
  go_wp2_with fail
  refine (ismall_yes ia.iv (by omega) (by omega) (by have := HP.out; omega)).mono ?_
  clear ka_0 ka_1 ka_2
  rintro e w1 ⟨rfl, bb⟩
  have ia := ia.below bb
  have nd := nd.below bb
  have ka := ka.below bb
  have B0 := B0.trans (bb.mono B0.size)
  clear bb
  have ka_0 := ka.c0
  have ka_1 := ka.c1
  have ka_2 := ka.c2
  go_wp2_with fail
  refine (ismall_yes nd.iv0 (by omega) (by omega) (by have := HD.out; omega)).mono ?_
  clear ka_0 ka_1 ka_2
  rintro e w2 ⟨rfl, bb⟩
  have ia := ia.below bb
  have nd := nd.below bb
  have ka := ka.below bb
  have B0 := B0.trans (bb.mono B0.size)
  clear bb
  go_wp2
  go_ret2
  exact ⟨rfl, B0⟩
theorem fval_walk {w : World} {v : Value} {x : Rat} {k j : Nat} (hz : Qz w v x k j) (hk : k ≤ 900) (hj : j ≤ 900) (h0 : x.num = (x.num.toNat : Int)) (h1 : x.num.toNat < x.den) (y : Nat) (hy : y ≤ 9999999) (ht : Tab w) : Calls Tryz.prog 32 #[.int .i64 (y : Int), v] w (SbEnd (ofL ((fVal y x.num.toNat x.den).getD [])) (fVal y x.num.toNat x.den).isSome w) := by
  obtain ⟨b, A, n, c, B, m, c', rfl, ia, nd⟩ := hz
  rw [h0] at ia
  have hd := x.den_pos
  generalize x.num.toNat = p at *
  generalize x.den = d at *
  clear h0
  by_cases hbig : 9223372036854775807 < d
  · have e : fVal y p d = none := by
      have hm : 10000 % d = 10000 := Nat.mod_eq_of_lt (by omega)
      rw [fVal, hm, if_neg (by decide), if_neg (by omega)]
    rw [e]
    show Calls Tryz.prog 32 _ w (SbEnd ⟨#[]⟩ false w)
    by_cases hpb : (p : Int) ≤ 9223372036854775807
    · exact fval_big y p d w ia nd hk hj _ _ (fun w' h => ismall_yes h.iv (by omega) (by omega) (by omega)) hbig
    · exact fval_big y p d w ia nd hk hj _ _ (fun w' h => ismall_no h.iv (by omega) (by omega)) hbig
  · have hmod : (10000 : Int).tmod (d : Int) = ((10000 % d : Nat) : Int) := by
      rw [Int.tmod_eq_emod_of_nonneg (by omega)]; exact (Int.natCast_emod 10000 d).symm
    have hdiv : (10000 : Int).tdiv (d : Int) = ((10000 / d : Nat) : Int) := by
      rw [Int.tdiv_eq_ediv_of_nonneg (by omega)]; exact (Int.natCast_ediv 10000 d).symm
    by_cases hr : 10000 % d = 0
    · have hle : d ≤ 10000 := Nat.le_of_dvd (by omega) (Nat.dvd_of_mod_eq_zero hr)
      obtain ⟨q, hq⟩ := Nat.dvd_of_mod_eq_zero hr
      have hq1 : 10000 / d = q := by rw [hq]; exact Nat.mul_div_cancel_left q hd
      have hq0 : 0 < q := by
        rcases Nat.eq_zero_or_pos q with h | h
        · rw [h] at hq; omega
        · exact h
      have hpq : p * q < 10000 := by
        have := Nat.mul_lt_mul_of_lt_of_le h1 (Nat.le_refl q) hq0
        omega
      have hq9 : q ≤ 10000 := by rw [← hq1]; exact Nat.div_le_self _ _
      have := fval_dec y p d w ia nd hk hj (by omega) hd hle ht 0 q (by rw [hmod, hr]; rfl) (by rw [hdiv, hq1]) (by omega) hq9 (ofL (fDec y (p * q))) (fun w ht => fdec_walk y (p * q) w ht hy (by omega))
      simpa only [fVal, hr, if_true, hq1, Option.getD_some, Option.isSome_some] using this
    · have hr' : ((10000 : Int) % (d : Int) == 0) = false := by
        rw [beq_eq_false_iff_ne]
        intro h
        have e : (10000 : Int) % (d : Int) = ((10000 % d : Nat) : Int) := (Int.natCast_emod 10000 d).symm
        rw [e] at h
        exact hr (Int.ofNat_eq_zero.1 h)
      by_cases h9 : d ≤ 999
      · have := fval_frac y p d w ia nd hk hj (by omega) hd (by omega) hr' (decide_eq_true (by omega)) ht (ofL (fFrac y p d)) (fun w ht => ffrac_walk y p d w ht hy (by omega) (by omega))
        simpa only [fVal, hr, h9, if_true, if_false, Option.getD_some, Option.isSome_some] using this
      · have := fval_none y p d w ia nd hk hj (by omega) hd (by omega) hr' (decide_eq_false (by omega))
        simp only [fVal, hr, h9, if_false]
        exact this
end Go.Proofs.YtohlilgnognmgaaGreatDoor
