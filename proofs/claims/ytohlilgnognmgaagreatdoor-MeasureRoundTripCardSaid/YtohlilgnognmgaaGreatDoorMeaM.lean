/-
  What layer 4's laws ask of the words of MeaN: a written length reads back, signs, units; no program is named here.
-/
import Derived.Test.YtohlilgnognmgaaGreatDoorMeaN
namespace Go.Proofs.YtohlilgnognmgaaGreatDoor
open Txt
namespace Mea
set_option linter.unusedVariables false

theorem pre_neg (l : List UInt8) : Lib.hasPrefix (45 :: l) [45] = true ∧ Lib.trimPrefix (45 :: l) [45] = l := by
  have h : Lib.hasPrefix (45 :: l) [45] = true := by simp [Lib.hasPrefix, List.isPrefixOf]
  exact ⟨h, by simp [Lib.trimPrefix, h]⟩
theorem pre_pos (l : List UInt8) (h : l.head? ≠ some 45) : Lib.hasPrefix l [45] = false ∧ Lib.trimPrefix l [45] = l := by
  have h1 : Lib.hasPrefix l [45] = false := by
    cases l with
    | nil => rfl
    | cons x t =>
      simp only [Lib.hasPrefix, List.isPrefixOf, Bool.and_true]
      rw [beq_eq_false_iff_ne]
      intro e; subst e; exact h rfl
  exact ⟨h1, by simp [Lib.trimPrefix, h1]⟩
theorem cutU_app (s u : List UInt8) (hs : ∀ c ∈ s, isLet c = false) (hu : ∀ c ∈ u, isLet c = true) : cutU (s ++ u) = (s, u) := by
  induction s with
  | nil =>
    cases u with
    | nil => rfl
    | cons x t =>
      have := hu x (by simp)
      simp [cutU, this]
  | cons x t ih =>
    have h1 := hs x (by simp)
    have h2 := ih (fun c hc => hs c (by simp [hc]))
    simp only [cutU, Prod.mk.injEq] at h2
    simp only [cutU, List.cons_append, List.takeWhile_cons, List.dropWhile_cons, h1, Bool.not_false, if_true, h2.1, h2.2]
/-- A text with a letter before the unit's own is no measure. -/
theorem cutU_let (s u : List UInt8) (hs : ∃ c ∈ s, isLet c = true) : (cutU (s ++ u)).2.length > u.length := by
  induction s with
  | nil => obtain ⟨c, hc, _⟩ := hs; simp at hc
  | cons x t ih =>
    by_cases hx : isLet x = true
    · simp only [cutU, List.cons_append, List.dropWhile_cons, hx, Bool.not_true, Bool.false_eq_true, if_false, List.length_cons, List.length_append]
      omega
    · have hx : isLet x = false := by simpa using hx
      have h1 : ∃ c ∈ t, isLet c = true := by
        obtain ⟨c, hc, h2⟩ := hs
        rcases List.mem_cons.1 hc with rfl | h3
        · rw [hx] at h2; cases h2
        · exact ⟨c, h3, h2⟩
      have := ih h1
      simp only [cutU] at this
      simpa only [cutU, List.cons_append, List.dropWhile_cons, hx, Bool.not_false, if_true] using this
theorem pUnit_long (l : List UInt8) (h : 2 < l.length) : (pUnit l).2 = false := by
  simp only [pUnit]
  repeat' split
  all_goals (rename_i h1; first | (subst h1; simp at h) | rfl)
/-- The names of the four units, with the length of each. -/
theorem unit_mm : pUnit [109, 109] = (100, true) := rfl
theorem unit_cm : pUnit [99, 109] = (1000, true) := rfl
theorem unit_m : pUnit [109] = (100000, true) := rfl
theorem unit_in : pUnit [105, 110] = (2540, true) := rfl
theorem let_mm : ∀ c ∈ [(109 : UInt8), 109], isLet c = true := by decide
theorem let_cm : ∀ c ∈ [(99 : UInt8), 109], isLet c = true := by decide
theorem let_m : ∀ c ∈ [(109 : UInt8)], isLet c = true := by decide
theorem let_in : ∀ c ∈ [(105 : UInt8), 110], isLet c = true := by decide
/-- A value without letters before a unit. -/
theorem pBody_app (t u : List UInt8) (z : Nat) (ht : ∀ c ∈ t, isLet c = false) (hu : ∀ c ∈ u, isLet c = true) (hz : pUnit u = (z, true)) : pBody (t ++ u) = ((pVal t).1 * z, (pVal t).2.1, (pVal t).2.2) := by
  simp only [pBody, cutU_app t u ht hu, hz, Bool.true_and]
theorem pMea_pos (l : List UInt8) (h : l.head? ≠ some 45) : pMea l = if (pBody l).2.2 then some (mkRat (sgn false (pBody l).1) (pBody l).2.1) else none := by
  simp only [pMea, (pre_pos l h).1, (pre_pos l h).2]
theorem pMea_neg (l : List UInt8) : pMea (45 :: l) = if (pBody l).2.2 then some (mkRat (sgn true (pBody l).1) (pBody l).2.1) else none := by
  simp only [pMea, (pre_neg l).1, (pre_neg l).2]
theorem mk_neg (m d : Nat) : mkRat (sgn true m) d = - mkRat (sgn false m) d := by
  rw [sgn_true, sgn_false, Rat.neg_mkRat]
/-- A minus sign negates. -/
theorem pMea_minus (l : List UInt8) (h : l.head? ≠ some 45) : pMea (45 :: l) = (pMea l).map (fun x => -x) := by
  rw [pMea_pos l h, pMea_neg l]
  split
  · simp only [Option.map_some, mk_neg]
  · rfl
/-- The same value in another unit. -/
theorem body_scale (s u : List UInt8) (y : Nat) (hs : (pBody (s ++ [109, 109])).2.2 = true) (hu : ∀ c ∈ u, isLet c = true) (hy : pUnit u = (y, true)) : (pBody (s ++ u)).2.2 = true ∧ (pBody (s ++ u)).2.1 = (pBody (s ++ [109, 109])).2.1 ∧ (pBody (s ++ u)).1 * 100 = (pBody (s ++ [109, 109])).1 * y ∧ 0 < (pBody (s ++ [109, 109])).2.1 := by
  have h : ∀ c ∈ s, isLet c = false := by
    intro c hc
    by_cases h1 : isLet c = true
    · exfalso
      have h2 := cutU_let s [109, 109] ⟨c, hc, h1⟩
      have h3 := pUnit_long _ (show 2 < (cutU (s ++ [109, 109])).2.length from h2)
      simp only [pBody, h3, Bool.false_and] at hs
      cases hs
    · simpa using h1
  rw [pBody_app s _ 100 h let_mm unit_mm] at hs ⊢
  rw [pBody_app s u y h hu hy]
  refine ⟨hs, rfl, ?_, (pVal_den s hs).1⟩
  simp only [Nat.mul_assoc]
  rw [Nat.mul_comm y 100]
theorem mk_scale (b : Bool) (m n d y : Nat) (q : Rat) (hd : 0 < d) (h : n * 100 = m * y) (hq : q * 100 = (y : Rat)) : mkRat (sgn b n) d = mkRat (sgn b m) d * q := by
  have h0 : (d : Rat) ≠ 0 := by have : d ≠ 0 := by omega
                                exact_mod_cast this
  have h1 : (n : Rat) * 100 = (m : Rat) * (y : Rat) := by exact_mod_cast h
  have h2 : (n : Rat) = (m : Rat) * q := by grind
  cases b
  · rw [sgn_false, sgn_false, Rat.mkRat_eq_div, Rat.mkRat_eq_div]
    push_cast
    rw [h2, Rat.div_def, Rat.div_def]
    grind
  · rw [sgn_true, sgn_true, Rat.mkRat_eq_div, Rat.mkRat_eq_div]
    push_cast
    rw [h2, Rat.div_def, Rat.div_def]
    grind
theorem head_app (s u : List UInt8) (hu : u.head? ≠ some 45) (hs : s.head? ≠ some 45) : (s ++ u).head? ≠ some 45 := by
  cases s with
  | nil => exact hu
  | cons x t => exact hs
theorem pMea_scale (s u : List UInt8) (y : Nat) (q a : Rat) (h : pMea (s ++ [109, 109]) = some a) (hu : ∀ c ∈ u, isLet c = true) (hu' : u.head? ≠ some 45) (hy : pUnit u = (y, true)) (hq : q * 100 = (y : Rat)) : pMea (s ++ u) = some (a * q) := by
  by_cases h45 : s.head? = some 45
  · obtain ⟨t, rfl⟩ : ∃ t, s = 45 :: t := by
      cases s with
      | nil => cases h45
      | cons x t => simp only [List.head?_cons, Option.some.injEq] at h45; exact ⟨t, by rw [h45]⟩
    rw [List.cons_append, pMea_neg] at h ⊢
    split at h
    · rename_i hok
      obtain rfl := Option.some.inj h
      obtain ⟨h1, h2, h3, h4⟩ := body_scale t u y hok hu hy
      rw [h1, h2, if_pos rfl, mk_scale true _ _ _ y q h4 h3 hq]
    · cases h
  · rw [pMea_pos _ (head_app s _ (by decide) h45)] at h
    rw [pMea_pos _ (head_app s _ hu' h45)]
    split at h
    · rename_i hok
      obtain rfl := Option.some.inj h
      obtain ⟨h1, h2, h3, h4⟩ := body_scale s u y hok hu hy
      rw [h1, h2, if_pos rfl, mk_scale false _ _ _ y q h4 h3 hq]
    · cases h

theorem absQ_nonneg (x : Rat) : 0 ≤ absQ x := by
  simp only [absQ]; split <;> grind
theorem div_hundred_nonneg {y : Rat} (h : 0 ≤ y) : 0 ≤ y / 100 := by grind
/-- The whole part and the rest. -/
theorem whole_int (x : Rat) : (absQ x / 100).floor = (whole x : Int) := by
  have h1 : (0 : Int) ≤ (absQ x / 100).floor := Rat.le_floor_iff.mpr (by
    have := div_hundred_nonneg (absQ_nonneg x)
    simpa using this)
  simp only [whole]; omega
theorem rest_bounds (x : Rat) : 0 ≤ restQ x ∧ restQ x < 1 := by
  have h1 := Rat.floor_le (absQ x / 100)
  have h2 := RatN.lt_floor (absQ x / 100)
  rw [whole_int, Rat.intCast_natCast] at h1 h2
  simp only [restQ]
  constructor <;> grind
theorem rest_parts (x : Rat) : (restQ x).num = ((restQ x).num.toNat : Int) ∧ (restQ x).num.toNat < (restQ x).den ∧ 0 < (restQ x).den ∧ absQ x / 100 = (whole x : Rat) + (((restQ x).num.toNat : Nat) : Rat) / ((restQ x).den : Rat) := by
  obtain ⟨h1, h2⟩ := rest_bounds x
  have hn : 0 ≤ (restQ x).num := Rat.num_nonneg.mpr h1
  have hl := (Rat.lt_iff (restQ x) 1).mp h2
  simp only [Rat.den_ofNat, Rat.num_ofNat] at hl
  have hd := (restQ x).den_pos
  have e : (restQ x).num = ((restQ x).num.toNat : Int) := by omega
  refine ⟨e, by omega, hd, ?_⟩
  have h3 : restQ x = ((restQ x).num : Rat) / ((restQ x).den : Rat) := by
    conv => lhs; rw [← RatN.mk_self (restQ x), Rat.mkRat_eq_div]
  rw [e] at h3
  have h4 : absQ x / 100 = (whole x : Rat) + restQ x := by simp only [restQ]; grind
  rw [h4]
  conv => lhs; rw [h3]
  push_cast
  rfl
theorem val_eq (N D n p d : Nat) (A : Rat) (hD : D ≠ 0) (hd : d ≠ 0) (h : N * d = (n * d + p) * D) (hv : A / 100 = (n : Rat) + ((p : Nat) : Rat) / (d : Rat)) : mkRat (sgn false (N * 100)) D = A := by
  have hD' : (D : Rat) ≠ 0 := by exact_mod_cast hD
  have hd' : (d : Rat) ≠ 0 := by exact_mod_cast hd
  have e1 := Rat.mul_inv_cancel _ hd'
  have e2 := Rat.mul_inv_cancel _ hD'
  have h5 : (N : Rat) * (d : Rat) = ((n : Rat) * d + p) * D := by exact_mod_cast h
  have hA : A = ((n : Rat) + (p : Rat) * (d : Rat)⁻¹) * 100 := by
    rw [Rat.div_def] at hv
    rw [← Rat.div_def, ← hv]
    grind
  have hN : (N : Rat) = ((n : Rat) + p * (d : Rat)⁻¹) * D := by
    have e3 : (N : Rat) = N * d * (d : Rat)⁻¹ := by rw [Rat.mul_assoc, e1, Rat.mul_one]
    rw [e3, h5]
    generalize (d : Rat)⁻¹ = u at *
    generalize (D : Rat)⁻¹ = v at *
    clear h5 hv hA e3 h
    grind
  rw [sgn_false, Rat.mkRat_eq_div, hA]
  push_cast
  rw [hN, Rat.div_def]
  generalize (d : Rat)⁻¹ = u at *
  generalize (D : Rat)⁻¹ = v at *
  clear h5 hv hA hN h
  grind
/-- A written length reads back. -/
theorem fMea_reads (x : Rat) (t : List UInt8) (h : fMea x = some t) : pMea t = some x ∧ t.length ≤ 23 := by
  simp only [fMea, fAbs] at h
  by_cases hw : 9999999 < whole x
  · simp only [hw, if_true, Option.map_none] at h
    cases h
  · simp only [hw, if_false] at h
    obtain ⟨e, hp, hd, hv⟩ := rest_parts x
    generalize (restQ x).num.toNat = p at *
    generalize (restQ x).den = d at *
    generalize whole x = n at *
    rcases hf : fVal n p d with _ | r
    · rw [hf] at h; cases h
    · rw [hf] at h
      simp only [Option.map_some, Option.some.injEq] at h
      obtain ⟨N, D, h1, h2, h3⟩ := pVal_fVal n p d r (by omega) hp hf
      obtain ⟨g1, g2, g3, g4⟩ := fVal_text n p d r (by omega) hp hf
      have hb : pBody (r ++ [109, 109]) = (N * 100, D, true) := by rw [pBody_app r _ 100 g1 let_mm unit_mm, h1]
      have q : mkRat (sgn false (N * 100)) D = absQ x := val_eq N D n p d _ (by omega) (by omega) h3 hv
      by_cases hx : x < 0
      · simp only [hx, if_true] at h
        subst h
        refine ⟨?_, by simp only [List.length_append, List.length_cons, List.length_nil]; omega⟩
        have er : ([45] ++ r ++ [109, 109] : List UInt8) = 45 :: (r ++ [109, 109]) := by simp
        rw [er]
        rw [pMea_neg, hb]
        simp only [if_true, mk_neg, q]
        have hn : - absQ x = x := by simp only [absQ, hx, if_true]; exact Rat.neg_neg x
        rw [hn]
      · simp only [hx, if_false, List.nil_append] at h
        subst h
        refine ⟨?_, by simp only [List.length_append, List.length_cons, List.length_nil]; omega⟩
        rw [pMea_pos _ (by rcases r with _ | ⟨a, b⟩ <;> simp_all), hb]
        simp only [if_true, q]
        simp only [absQ, hx, if_false]
theorem absQ_neg (x : Rat) : absQ (-x) = absQ x := by
  simp only [absQ]; split <;> split <;> grind
theorem whole_neg (x : Rat) : whole (-x) = whole x := by rw [whole, whole, absQ_neg]
theorem restQ_neg (x : Rat) : restQ (-x) = restQ x := by rw [restQ, restQ, absQ_neg, whole_neg]
theorem fAbs_neg (x : Rat) : fAbs (-x) = fAbs x := by rw [fAbs, fAbs, whole_neg, restQ_neg]
theorem fMea_none (x : Rat) : fMea (-x) = none ↔ fMea x = none := by simp [fMea, fAbs_neg]
theorem fMea_zero : fMea 0 = some [48, 109, 109] := by
  have a : absQ 0 = 0 := by decide
  have z : (0 : Rat) / 100 = 0 := by grind
  have b : whole 0 = 0 := by rw [whole, a, z]; decide
  have c : restQ 0 = 0 := by rw [restQ, a, b, z]; simp only [Rat.natCast_ofNat]; grind
  have d : fAbs 0 = some [48] := by
    simp only [fAbs, b, c]
    show (if 9999999 < 0 then none else fVal 0 0 1) = _
    simp only [fVal, fDec, digN, Lib.decDigits_one (show 0 < 10 by omega)]
    decide
  simp only [fMea, d]
  decide
theorem fMea_pos (x : Rat) (t : List UInt8) (h : 0 < x) (ht : fMea x = some t) : fMea (-x) = some (45 :: t) := by
  have h1 : ¬ x < 0 := by grind
  have h2 : -x < 0 := by grind
  simp only [fMea, fAbs_neg, h1, h2, if_true, if_false] at ht ⊢
  rcases hf : fAbs x with _ | r
  · rw [hf] at ht; cases ht
  · rw [hf] at ht
    simp only [Option.map_some, Option.some.injEq, List.nil_append] at ht ⊢
    rw [← ht]; rfl
end Mea
end Go.Proofs.YtohlilgnognmgaaGreatDoor
