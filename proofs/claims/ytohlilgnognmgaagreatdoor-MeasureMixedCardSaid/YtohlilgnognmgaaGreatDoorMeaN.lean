/-
  Plain words and arithmetic for layer 4: what a measure's text says, and how a length is written; no program is named here.
-/
import Derived.Test.YtohlilgnognmgaaGreatDoorRatNum
import Derived.Laws.RangeAny
import Derived.Lib.TrimByte
import Derived.Lib.Strings
namespace Go.Proofs.YtohlilgnognmgaaGreatDoor
open Txt
namespace Mea
set_option linter.unusedVariables false

/-- At least one digit. -/
def pDig (l : List UInt8) : Nat × Bool := if l.all dgt then (decVal l, !l.isEmpty) else (0, false)
/-- A whole number. -/
def pWh (l : List UInt8) : Nat × Bool := if 7 < l.length ∨ (1 < l.length ∧ l[0]? = some 48) then (0, false) else pDig l
/-- What stands before and behind the first c, and whether there is one. -/
def cutAt (c : UInt8) : List UInt8 → List UInt8 × List UInt8 × Bool
  | [] => ([], [], false)
  | x :: t => if x = c then ([], t, true) else (x :: (cutAt c t).1, (cutAt c t).2.1, (cutAt c t).2.2)
def pFrac (a b : List UInt8) : Nat × Nat × Bool :=
  if (cutAt 32 a).2.2 then ((pWh (cutAt 32 a).1).1 * (pWh b).1 + (pWh (cutAt 32 a).2.1).1, (pWh b).1, (pWh (cutAt 32 a).1).2 && (pWh (cutAt 32 a).2.1).2 && (pWh b).2 && decide (0 < (pWh b).1) && decide ((pWh b).1 ≤ 999))
  else ((pWh a).1, (pWh b).1, (pWh a).2 && (pWh b).2 && decide (0 < (pWh b).1) && decide ((pWh b).1 ≤ 999))
def pDec (a b : List UInt8) : Nat × Nat × Bool :=
  if 4 < b.length then (0, 0, false) else ((pWh a).1 * 10 ^ b.length + (pDig b).1, 10 ^ b.length, (pWh a).2 && (pDig b).2)
def pVal (l : List UInt8) : Nat × Nat × Bool :=
  if (cutAt 47 l).2.2 then pFrac (cutAt 47 l).1 (cutAt 47 l).2.1
  else if (cutAt 46 l).2.2 then pDec (cutAt 46 l).1 (cutAt 46 l).2.1
  else ((pWh l).1, 1, (pWh l).2)
def isLet (c : UInt8) : Bool := decide (97 ≤ c.toNat) && decide (c.toNat ≤ 122)
def cutU (l : List UInt8) : List UInt8 × List UInt8 := (l.takeWhile (fun c => !isLet c), l.dropWhile (fun c => !isLet c))
def pUnit (l : List UInt8) : Nat × Bool := if l = [109, 109] then (100, true) else if l = [99, 109] then (1000, true) else if l = [109] then (100000, true) else if l = [105, 110] then (2540, true) else (0, false)
def pBody (l : List UInt8) : Nat × Nat × Bool := ((pVal (cutU l).1).1 * (pUnit (cutU l).2).1, (pVal (cutU l).1).2.1, (pUnit (cutU l).2).2 && (pVal (cutU l).1).2.2)
/-- The length that a text of at most 24 bytes denotes. -/
def pMea (l : List UInt8) : Option Rat :=
  if (pBody (Lib.trimPrefix l [45])).2.2 then some (mkRat (sgn (Lib.hasPrefix l [45]) (pBody (Lib.trimPrefix l [45])).1) (pBody (Lib.trimPrefix l [45])).2.1) else none

theorem cutAt_no (c : UInt8) (l : List UInt8) (h : c ∉ l) : cutAt c l = (l, [], false) := by
  induction l with
  | nil => rfl
  | cons x t ih =>
    simp only [List.mem_cons, not_or] at h
    have hx : ¬ x = c := fun e => h.1 e.symm
    simp only [cutAt, hx, if_false, ih h.2]
theorem cutAt_at (c : UInt8) (a b : List UInt8) (h : c ∉ a) : cutAt c (a ++ c :: b) = (a, b, true) := by
  induction a with
  | nil => simp [cutAt]
  | cons x t ih =>
    simp only [List.mem_cons, not_or] at h
    have hx : ¬ x = c := fun e => h.1 e.symm
    simp only [List.cons_append, cutAt, hx, if_false, ih h.2]
theorem cutAt_split (c : UInt8) (l : List UInt8) : (c ∉ l ∧ cutAt c l = (l, [], false)) ∨ ∃ a b, l = a ++ c :: b ∧ c ∉ a ∧ cutAt c l = (a, b, true) := by
  by_cases h : c ∈ l
  · obtain ⟨a, b, h1, h2⟩ := List.eq_append_cons_of_mem h
    exact .inr ⟨a, b, h1, h2, by rw [h1]; exact cutAt_at c a b h2⟩
  · exact .inl ⟨h, cutAt_no c l h⟩
theorem pDig_lt (l : List UInt8) (k : Nat) (h : l.length ≤ k) : (pDig l).1 < 10 ^ k := by
  simp only [pDig]
  split
  · rename_i h1
    have h2 := decVal_lt l (fun c hc => by
      have := List.all_eq_true.1 h1 c hc
      simp only [dgt, Bool.and_eq_true, decide_eq_true_eq, UInt8.le_iff_toNat_le] at this
      exact this.2)
    exact Nat.lt_of_lt_of_le h2 (Nat.pow_le_pow_right (by omega) h)
  · exact Nat.pow_pos (by omega)
theorem pWh_lt (l : List UInt8) : (pWh l).1 < 10000000 := by
  simp only [pWh]
  split
  · omega
  · rename_i h
    exact pDig_lt l 7 (by omega)
theorem pVal_den (l : List UInt8) (h : (pVal l).2.2 = true) : 0 < (pVal l).2.1 ∧ (pVal l).2.1 ≤ 10000 ∧ (pVal l).1 < 200000000000 := by
  have p4 : ∀ k, k ≤ 4 → 0 < 10 ^ k ∧ 10 ^ k ≤ 10000 := fun k hk => ⟨Nat.pow_pos (by omega), Nat.pow_le_pow_right (n := 10) (by omega) hk⟩
  simp only [pVal] at h ⊢
  split at h
  · rename_i h1
    simp only [h1, if_true]
    generalize (cutAt 47 l).1 = a at *
    generalize (cutAt 47 l).2.1 = b at *
    simp only [pFrac] at h ⊢
    split at h
    · rename_i h2
      simp only [h2, if_true]
      simp only [Bool.and_eq_true, decide_eq_true_eq] at h
      have w1 := pWh_lt (cutAt 32 a).1
      have w2 := pWh_lt (cutAt 32 a).2.1
      have := Nat.mul_le_mul (Nat.le_of_lt w1) h.2
      omega
    · rename_i h2
      simp only [h2, if_false, Bool.false_eq_true]
      simp only [Bool.and_eq_true, decide_eq_true_eq] at h
      have w1 := pWh_lt a
      omega
  · rename_i h1
    simp only [h1, if_false, Bool.false_eq_true]
    split at h
    · rename_i h2
      simp only [h2, if_true]
      generalize (cutAt 46 l).1 = a at *
      generalize (cutAt 46 l).2.1 = b at *
      simp only [pDec] at h ⊢
      split at h
      · cases h
      · rename_i h3
        simp only [h3, if_false]
        have q := p4 b.length (by omega)
        have w1 := pWh_lt a
        have w2 := pDig_lt b 4 (by omega)
        have := Nat.mul_le_mul (Nat.le_of_lt w1) q.2
        omega
    · rename_i h2
      simp only [h2, if_false, Bool.false_eq_true]
      have w1 := pWh_lt l
      omega
theorem pUnit_le (l : List UInt8) : (pUnit l).1 ≤ 100000 := by
  simp only [pUnit]
  repeat' split
  all_goals omega

/-- The digits of n. -/
abbrev digN (n : Nat) : List UInt8 := Lib.decDigits n
theorem dgt_toNat {c : UInt8} (h : dgt c = true) : 48 ≤ c.toNat ∧ c.toNat ≤ 57 := by
  simpa [dgt, UInt8.le_iff_toNat_le] using h
theorem dec_notin (n : Nat) (c : UInt8) (hc : dgt c = false) : c ∉ digN n := fun h => by
  rw [dec_all n c h] at hc; cases hc
theorem pDig_dec (n : Nat) : pDig (digN n) = (n, true) := by
  have h1 : (digN n).all dgt = true := List.all_eq_true.2 (dec_all n)
  have h2 : (digN n).isEmpty = false := by
    have := dec_ne n
    cases h : digN n <;> simp_all
  simp only [pDig, h1, if_true, h2, read_dec, Bool.not_false]
theorem dec_len7 (n : Nat) (h : n ≤ 9999999) : (digN n).length ≤ 7 := dec_length_le n 7 (by omega) (by omega)
theorem pWh_dec (n : Nat) (h : n ≤ 9999999) : pWh (digN n) = (n, true) := by
  have h1 := dec_len7 n h
  have h2 : ¬ (1 < (digN n).length ∧ (digN n)[0]? = some 48) := by
    rintro ⟨h3, h4⟩
    have := dec_isNum n
    rw [isNum_lead h4 h3] at this
    cases this
  have h3 : ¬ (7 < (digN n).length ∨ (1 < (digN n).length ∧ (digN n)[0]? = some 48)) := by
    rintro (h4 | h4)
    · omega
    · exact h2 h4
  simp only [pWh, h3, if_false, pDig_dec]
/-- A whole number, in its three places. -/
theorem pVal_whole (n : Nat) (h : n ≤ 9999999) : pVal (digN n) = (n, 1, true) := by
  simp only [pVal, cutAt_no 47 _ (dec_notin n 47 rfl), cutAt_no 46 _ (dec_notin n 46 rfl), Bool.false_eq_true, if_false, pWh_dec n h]
theorem pVal_frac (y z : Nat) (hy : y ≤ 9999999) (hz : 0 < z) (hz' : z ≤ 999) : pVal (digN y ++ 47 :: digN z) = (y, z, true) := by
  simp only [pVal, cutAt_at 47 _ _ (dec_notin y 47 rfl), if_true, pFrac, cutAt_no 32 _ (dec_notin y 32 rfl), Bool.false_eq_true, if_false, pWh_dec y hy, pWh_dec z (by omega)]
  simp [hz, hz']
theorem pVal_mixed (x y z : Nat) (hx : x ≤ 9999999) (hy : y ≤ 9999999) (hz : 0 < z) (hz' : z ≤ 999) : pVal (digN x ++ 32 :: digN y ++ 47 :: digN z) = (x * z + y, z, true) := by
  have h : (47 : UInt8) ∉ digN x ++ 32 :: digN y := by
    simp only [List.mem_append, List.mem_cons, not_or]
    exact ⟨dec_notin x 47 rfl, by decide, dec_notin y 47 rfl⟩
  simp only [pVal, cutAt_at 47 _ _ h, if_true, pFrac, cutAt_at 32 _ _ (dec_notin x 32 rfl), pWh_dec x hx, pWh_dec y hy, pWh_dec z (by omega)]
  simp [hz, hz']

/-- How a length is written. -/
def fDec (n p : Nat) : List UInt8 := if p = 0 then digN n else digN n ++ 46 :: Lib.trimRightB ((digN (10000 + p)).drop 1) 48
def fFrac (n p d : Nat) : List UInt8 := if n = 0 then digN p ++ 47 :: digN d else digN n ++ 32 :: digN p ++ 47 :: digN d
def fVal (n p d : Nat) : Option (List UInt8) := if 10000 % d = 0 then some (fDec n (p * (10000 / d))) else if d ≤ 999 then some (fFrac n p d) else none
def absQ (x : Rat) : Rat := if x < 0 then -x else x
def whole (x : Rat) : Nat := (absQ x / 100).floor.toNat
def restQ (x : Rat) : Rat := absQ x / 100 - ((whole x : Nat) : Rat)
def fAbs (x : Rat) : Option (List UInt8) := if 9999999 < whole x then none else fVal (whole x) (restQ x).num.toNat (restQ x).den
def fMea (x : Rat) : Option (List UInt8) := (fAbs x).map fun t => (if x < 0 then [45] else []) ++ t ++ [109, 109]

theorem decVal_zeros (l : List UInt8) (k : Nat) : decVal (l ++ List.replicate k 48) = decVal l * 10 ^ k := by
  induction k with
  | zero => simp
  | succ k ih =>
    rw [List.replicate_succ', ← List.append_assoc, decVal_snoc, ih, Nat.pow_succ]
    show 10 * (decVal l * 10 ^ k) + ((48 : UInt8).toNat - 48) = _
    have : (48 : UInt8).toNat - 48 = 0 := rfl
    rw [this, Nat.add_zero, Nat.mul_comm 10, Nat.mul_assoc]
theorem trim_split (l : List UInt8) : ∃ k, l = Lib.trimRightB l 48 ++ List.replicate k 48 := by
  have h := List.takeWhile_append_dropWhile (p := (· == (48 : UInt8))) (l := l.reverse)
  refine ⟨(l.reverse.takeWhile (· == 48)).length, ?_⟩
  have h1 : l.reverse.takeWhile (· == (48 : UInt8)) = List.replicate (l.reverse.takeWhile (· == (48 : UInt8))).length 48 := by
    refine List.eq_replicate_iff.2 ⟨rfl, fun b hb => ?_⟩
    have := List.all_takeWhile (l := l.reverse) (p := (· == (48 : UInt8)))
    simpa using List.all_eq_true.1 this b hb
  have h2 : l = (l.reverse.takeWhile (· == 48) ++ l.reverse.dropWhile (· == 48)).reverse := by rw [h, List.reverse_reverse]
  conv => lhs; rw [h2]
  rw [List.reverse_append]
  congr 1
  conv => lhs; rw [h1]
  rw [List.reverse_replicate]
/-- The digits of 10000 + p are a 1 and the four digits of p. -/
theorem four (p : Nat) (h : p < 10000) : ((digN (10000 + p)).drop 1).length = 4 ∧ decVal ((digN (10000 + p)).drop 1) = p ∧ ∀ c ∈ (digN (10000 + p)).drop 1, dgt c = true := by
  have e : digN (10000 + p) = [49, UInt8.ofNat (48 + p / 1000), UInt8.ofNat (48 + p / 100 % 10), UInt8.ofNat (48 + p / 10 % 10), UInt8.ofNat (48 + p % 10)] := by
    show Lib.decDigits _ = _
    rw [dec_big _ (by omega), dec_big _ (by omega), dec_big _ (by omega), dec_big _ (by omega), Lib.decDigits_one (by omega)]
    have e1 : (10000 + p) / 10 / 10 / 10 / 10 = 1 := by omega
    have e2 : (10000 + p) / 10 / 10 / 10 % 10 = p / 1000 := by omega
    have e3 : (10000 + p) / 10 / 10 % 10 = p / 100 % 10 := by omega
    have e4 : (10000 + p) / 10 % 10 = p / 10 % 10 := by omega
    have e5 : (10000 + p) % 10 = p % 10 := by omega
    rw [e1, e2, e3, e4, e5]
    rfl
  refine ⟨by rw [e]; rfl, ?_, fun c hc => dec_all (10000 + p) c (List.mem_of_mem_drop hc)⟩
  rw [e]
  simp only [List.drop_succ_cons, List.drop_zero, decVal, List.foldl_cons, List.foldl_nil, chr _ (show p / 1000 < 10 by omega), chr _ (show p / 100 % 10 < 10 by omega), chr _ (show p / 10 % 10 < 10 by omega), chr _ (show p % 10 < 10 by omega)]
  omega
/-- What was written reads back: as a decimal number. -/
theorem pVal_fDec (n p : Nat) (hn : n ≤ 9999999) (hp : p < 10000) : ∃ N D, pVal (fDec n p) = (N, D, true) ∧ 0 < D ∧ N * 10000 = (n * 10000 + p) * D := by
  by_cases h0 : p = 0
  · refine ⟨n, 1, ?_, by omega, by omega⟩
    simp only [fDec, h0, if_true, pVal_whole n hn]
  · obtain ⟨f1, f2, f3⟩ := four p hp
    obtain ⟨k, hk⟩ := trim_split ((digN (10000 + p)).drop 1)
    simp only [fDec, h0, if_false]
    generalize (digN (10000 + p)).drop 1 = l at *
    generalize Lib.trimRightB l 48 = t at *
    have hv := decVal_zeros t k
    rw [← hk, f2] at hv
    have hl : t.length + k = 4 := by
      have := congrArg List.length hk
      rw [f1, List.length_append, List.length_replicate] at this
      omega
    have hd : ∀ c ∈ t, dgt c = true := fun c hc => f3 c (by rw [hk]; exact List.mem_append_left _ hc)
    have hne : t.isEmpty = false := by
      cases t with
      | nil => exfalso; apply h0; rw [hv]; simp [decVal]
      | cons => rfl
    have hpd : pDig t = (decVal t, true) := by
      simp only [pDig, List.all_eq_true.2 hd, if_true, hne, Bool.not_false]
    have ha : (47 : UInt8) ∉ digN n ++ 46 :: t := by
      simp only [List.mem_append, List.mem_cons, not_or]
      exact ⟨dec_notin n 47 rfl, by decide, fun h => by have := hd _ h; cases this⟩
    refine ⟨n * 10 ^ t.length + decVal t, 10 ^ t.length, ?_, Nat.pow_pos (by omega), ?_⟩
    · simp only [pVal, cutAt_no 47 _ ha, Bool.false_eq_true, if_false, cutAt_at 46 _ _ (dec_notin n 46 rfl), if_true, pDec, show ¬ 4 < t.length by omega, pWh_dec n hn, hpd, Bool.and_self]
    · have e : (10000 : Nat) = 10 ^ t.length * 10 ^ k := by rw [← Nat.pow_add, hl]
      rw [hv]
      generalize 10 ^ t.length = T at *
      generalize 10 ^ k = K at *
      rw [e, Nat.add_mul, Nat.add_mul]
      grind
theorem pVal_fVal (n p d : Nat) (t : List UInt8) (hn : n ≤ 9999999) (hp : p < d) (h : fVal n p d = some t) : ∃ N D, pVal t = (N, D, true) ∧ 0 < D ∧ N * d = (n * d + p) * D := by
  simp only [fVal] at h
  split at h
  · rename_i hd
    obtain rfl := Option.some.inj h
    obtain ⟨q, hq⟩ := Nat.dvd_of_mod_eq_zero hd
    have hd0 : 0 < d := by omega
    have hq1 : 10000 / d = q := by rw [hq]; exact Nat.mul_div_cancel_left q hd0
    have hpq : p * q < 10000 := by
      have hq0 : 0 < q := by
        rcases Nat.eq_zero_or_pos q with h0 | h0
        · rw [h0] at hq; omega
        · exact h0
      have := Nat.mul_lt_mul_of_lt_of_le hp (Nat.le_refl q) hq0
      omega
    rw [hq1]
    obtain ⟨N, D, h1, h2, h3⟩ := pVal_fDec n (p * q) hn hpq
    refine ⟨N, D, h1, h2, ?_⟩
    have hq0 : 0 < q := by
      rcases Nat.eq_zero_or_pos q with h0 | h0
      · rw [h0] at hq; omega
      · exact h0
    refine Nat.eq_of_mul_eq_mul_right hq0 ?_
    rw [hq] at h3
    have e1 : N * d * q = N * (d * q) := Nat.mul_assoc _ _ _
    rw [e1, h3]
    grind
  · split at h
    · rename_i hd h9
      obtain rfl := Option.some.inj h
      by_cases h0 : n = 0
      · refine ⟨p, d, ?_, by omega, ?_⟩
        · simp only [fFrac, h0, if_true]
          exact pVal_frac p d (by omega) (by omega) h9
        · subst h0; simp
      · refine ⟨n * d + p, d, ?_, by omega, rfl⟩
        simp only [fFrac, h0, if_false]
        exact pVal_mixed n p d hn (by omega) (by omega) h9
    · cases h
/-- What is written has no letter, does not begin with a minus sign, and is short. -/
theorem fVal_text (n p d : Nat) (t : List UInt8) (hn : n ≤ 9999999) (hp : p < d) (h : fVal n p d = some t) : (∀ c ∈ t, isLet c = false) ∧ t.head? ≠ some 45 ∧ t ≠ [] ∧ t.length ≤ 20 := by
  have dl : ∀ m, ∀ c ∈ digN m, isLet c = false := fun m c hc => by
    have := dgt_toNat (dec_all m c hc)
    simp only [isLet, Bool.and_eq_false_iff, decide_eq_false_iff_not]
    left; omega
  have dh : ∀ m (l : List UInt8), (digN m ++ l).head? ≠ some 45 := fun m l => by
    have h1 := dec_ne m
    rcases hm : digN m with _ | ⟨a, b⟩
    · exact absurd hm h1
    · have := dec_all m a (by rw [show Lib.decDigits m = _ from hm]; simp)
      simp only [List.cons_append, List.head?_cons, ne_eq, Option.some.injEq]
      intro e; subst e; cases this
  have dn : ∀ m (l : List UInt8), digN m ++ l ≠ [] := fun m l h => dec_ne m (List.append_eq_nil_iff.1 h).1
  have dh' : ∀ m, (digN m).head? ≠ some 45 := fun m => by have := dh m []; rwa [List.append_nil] at this
  have dn' : ∀ m, digN m ≠ [] := dec_ne
  have nl := dec_len7 n hn
  simp only [fVal] at h
  split at h
  · rename_i hd
    obtain rfl := Option.some.inj h
    obtain ⟨q, hq⟩ := Nat.dvd_of_mod_eq_zero hd
    have hd0 : 0 < d := by omega
    have hq1 : 10000 / d = q := by rw [hq]; exact Nat.mul_div_cancel_left q hd0
    have hq0 : 0 < q := by
      rcases Nat.eq_zero_or_pos q with h0 | h0
      · rw [h0] at hq; omega
      · exact h0
    have hpq : p * q < 10000 := by
      have := Nat.mul_lt_mul_of_lt_of_le hp (Nat.le_refl q) hq0
      omega
    rw [hq1]
    simp only [fDec]
    split
    · exact ⟨dl n, dh' n, dn' n, by omega⟩
    · obtain ⟨f1, f2, f3⟩ := four (p * q) hpq
      obtain ⟨k, hk⟩ := trim_split ((digN (10000 + p * q)).drop 1)
      generalize (digN (10000 + p * q)).drop 1 = l at *
      generalize Lib.trimRightB l 48 = t at *
      have hl : t.length ≤ 4 := by
        have := congrArg List.length hk
        rw [f1, List.length_append] at this
        omega
      refine ⟨fun c hc => ?_, dh n _, dn n _, ?_⟩
      · simp only [List.mem_append, List.mem_cons] at hc
        rcases hc with hc | rfl | hc
        · exact dl n c hc
        · rfl
        · have := dgt_toNat (f3 c (by rw [hk]; exact List.mem_append_left _ hc))
          simp only [isLet, Bool.and_eq_false_iff, decide_eq_false_iff_not]
          left; omega
      · rw [List.length_append, List.length_cons]; omega
  · split at h
    · rename_i h9
      obtain rfl := Option.some.inj h
      have pl : (digN p).length ≤ 3 := dec_length_le p 3 (by omega) (by omega)
      have ql : (digN d).length ≤ 3 := dec_length_le d 3 (by omega) (by omega)
      simp only [fFrac]
      split
      · refine ⟨fun c hc => ?_, dh p _, dn p _, ?_⟩
        · simp only [List.mem_append, List.mem_cons] at hc
          rcases hc with hc | rfl | hc
          · exact dl p c hc
          · rfl
          · exact dl d c hc
        · rw [List.length_append, List.length_cons]; omega
      · rw [List.append_assoc]
        refine ⟨fun c hc => ?_, dh n _, dn n _, ?_⟩
        · simp only [List.mem_append, List.mem_cons] at hc
          rcases hc with hc | (rfl | hc) | rfl | hc
          · exact dl n c hc
          · rfl
          · exact dl p c hc
          · rfl
          · exact dl d c hc
        · simp only [List.length_append, List.length_cons]; omega
    · cases h
end Mea
end Go.Proofs.YtohlilgnognmgaaGreatDoor
