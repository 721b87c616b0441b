/-
  Plain arithmetic of rational numbers for layer 3; no program is named here. A ratio's value is 'mkRat num den', which is 0 where den is 0; its normal form is (value).num and (value).den.
-/
import Derived.Test.YtohlilgnognmgaaGreatDoorJInt
import Derived.Test.YtohlilgnognmgaaGreatDoorJText
namespace Go.Proofs.YtohlilgnognmgaaGreatDoor
open Txt
namespace RatN
set_option linter.unusedVariables false
theorem sgn_abs (b : Bool) (m : Nat) : (sgn b m).natAbs = m := by cases b <;> simp [sgn]

/-- The parts of a fraction in lowest terms. -/
theorem low_den (z : Int) (d : Nat) (hd : d ≠ 0) : (mkRat z d).den = d / Nat.gcd z.natAbs d := by
  simp [mkRat, hd, Rat.normalize_eq]
theorem low_num (b : Bool) (n d : Nat) (hd : d ≠ 0) : (mkRat (sgn b n) d).num = sgn b (n / Nat.gcd n d) := by
  simp only [mkRat, hd, dite_false, Rat.normalize_eq, sgn_abs]
  have hg : ((Nat.gcd n d : Nat) : Int) ∣ (n : Int) := Int.natCast_dvd_natCast.mpr (Nat.gcd_dvd_left n d)
  cases b <;> simp only [sgn, if_true, if_false, Bool.false_eq_true]
  · simp
  · rw [Int.neg_ediv_of_dvd hg]; simp
theorem low_den' (b : Bool) (n d : Nat) (hd : d ≠ 0) : (mkRat (sgn b n) d).den = d / Nat.gcd n d := by
  rw [low_den _ _ hd, sgn_abs]
theorem mk_zero (z : Int) (d : Nat) : mkRat z d = 0 ↔ z = 0 ∨ d = 0 := by
  by_cases hd : d = 0
  · simp [hd]
  · simp [hd, Rat.mkRat_eq_zero]
theorem mk_self (q : Rat) : mkRat q.num q.den = q := Rat.mkRat_self q
def cmpQ (x y : Rat) : Int := if x < y then -1 else if x = y then 0 else 1
theorem cmpQ_eq (x y : Rat) : cmpZ (x.num * y.den) (y.num * x.den) = cmpQ x y := by
  have h : x = y ↔ x.num * y.den = y.num * x.den := by
    constructor
    · rintro rfl; rfl
    · intro h
      rw [← mk_self x, ← mk_self y]
      exact (Rat.mkRat_eq_iff x.den_nz y.den_nz).mpr h
  simp only [cmpZ, cmpQ, Rat.lt_iff, h]
theorem q_add (x y : Rat) : mkRat (x.num * y.den + y.num * x.den) (x.den * y.den) = x + y := (Rat.add_def' x y).symm
theorem q_mul (x y : Rat) : mkRat (x.num * y.num) (x.den * y.den) = x * y := (Rat.mul_def' x y).symm
theorem q_sub (x y : Rat) : mkRat (x.num * y.den - y.num * x.den) (x.den * y.den) = x - y := (Rat.sub_def' x y).symm
theorem q_neg (x : Rat) : (-x).num = -x.num ∧ (-x).den = x.den := ⟨rfl, rfl⟩
theorem num_zero (x : Rat) : x.num = 0 ↔ x = 0 := Rat.num_eq_zero
theorem q_div (x y : Rat) (b c : Bool) (m n : Nat) (hx : x.num = sgn b m) (hy : y.num = sgn c n) (h0 : y ≠ 0) :
    mkRat (sgn (b != c) (m * y.den)) (x.den * n) = x / y := by
  have hn : n ≠ 0 := by
    intro h; subst h; apply h0; rw [← num_zero, hy]; cases c <;> rfl
  have hd : x.den * n ≠ 0 := Nat.mul_ne_zero x.den_nz hn
  have key : mkRat (sgn (b != c) (m * y.den)) (x.den * n) * y = x := by
    conv => lhs; rhs; rw [← mk_self y]
    rw [Rat.mkRat_mul_mkRat]
    conv => rhs; rw [← mk_self x]
    rw [Rat.mkRat_eq_iff (Nat.mul_ne_zero hd y.den_nz) x.den_nz, hx, hy]
    cases b <;> cases c <;> simp [sgn] <;> grind
  rw [← key]; grind
theorem q_floor (x : Rat) : x.num / x.den = x.floor := by
  simp only [Rat.floor]
  split
  · rename_i h; simp [h]
  · rfl
/-- The nearest integer, halves away from 0. -/
def roundQ (x : Rat) : Int := sgn (decide (x.num < 0)) ((2 * x.num.natAbs + x.den) / (2 * x.den))
theorem roundQ_neg (x : Rat) : roundQ (-x) = - roundQ x := by
  simp only [roundQ, (q_neg x).1, (q_neg x).2, Int.natAbs_neg]
  rcases Int.lt_trichotomy x.num 0 with h | h | h
  · simp [sgn, h, show ¬ (0 < x.num) by omega]
  · have : x.den ≠ 0 := x.den_nz
    have e : x.den / (2 * x.den) = 0 := Nat.div_eq_of_lt (by omega)
    simp only [h, Int.natAbs_zero, Nat.mul_zero, Nat.zero_add, e]
    simp [sgn]
  · simp [sgn, h, show ¬ (x.num < 0) by omega]

theorem q_floor_le (x : Rat) : (x.floor : Rat) ≤ x := Rat.floor_le x
theorem lt_floor (x : Rat) : x < (x.floor : Rat) + 1 := by
  have := Rat.lt_floor_add_one x
  simpa using this
theorem floor_add (x : Rat) (n : Int) : (x + (n : Rat)).floor = x.floor + n := by
  have h1 := Rat.floor_le (x + (n : Rat))
  have h2 := Rat.lt_floor_add_one (x + (n : Rat))
  have h3 := Rat.floor_le x
  have h4 := Rat.lt_floor_add_one x
  have a1 : (((x + (n : Rat)).floor : Int) : Rat) < ((x.floor + n + 1 : Int) : Rat) := by push_cast; grind
  have a2 : ((x.floor + n : Int) : Rat) < (((x + (n : Rat)).floor + 1 : Int) : Rat) := by push_cast; grind
  have b1 := Rat.intCast_lt_intCast.mp a1
  have b2 := Rat.intCast_lt_intCast.mp a2
  omega
theorem round_int (x : Rat) : 2 * (x.den : Int) * roundQ x - 2 * x.num ≤ x.den ∧ -(x.den : Int) ≤ 2 * (x.den : Int) * roundQ x - 2 * x.num ∧ (x.num < 0 → 2 * (x.den : Int) * roundQ x - 2 * x.num < x.den) ∧ (0 ≤ x.num → -(x.den : Int) < 2 * (x.den : Int) * roundQ x - 2 * x.num) := by
  have hd : 0 < x.den := x.den_pos
  have h1 := Nat.div_mul_le_self (2 * x.num.natAbs + x.den) (2 * x.den)
  have h2 := Nat.lt_div_mul_add (a := 2 * x.num.natAbs + x.den) (b := 2 * x.den) (by omega)
  simp only [roundQ]
  generalize (2 * x.num.natAbs + x.den) / (2 * x.den) = q at *
  have e : (2 * (x.den : Int) * (q : Int)) = ((q * (2 * x.den) : Nat) : Int) := by push_cast; grind
  have e1 : ((q * (2 * x.den) : Nat) : Int) ≤ 2 * (x.num.natAbs : Int) + x.den := by exact_mod_cast h1
  have e2 : 2 * (x.num.natAbs : Int) + x.den < ((q * (2 * x.den) : Nat) : Int) + 2 * x.den := by exact_mod_cast h2
  rw [← e] at e1 e2
  clear h1 h2 e
  have s : ∀ z : Int, 2 * (x.den : Int) * -z = -(2 * (x.den : Int) * z) := fun z => Int.mul_neg _ _
  rcases Int.lt_or_le x.num 0 with h | h
  · simp only [h, decide_true, sgn, if_true, s]
    generalize 2 * (x.den : Int) * (q : Int) = t at *
    omega
  · simp only [show ¬ x.num < 0 by omega, decide_false, sgn, if_false, Bool.false_eq_true]
    generalize 2 * (x.den : Int) * (q : Int) = t at *
    have n0 := Int.natAbs_of_nonneg h
    exact ⟨by omega, by omega, fun h => h.elim, fun _ => by omega⟩
/-- The rounded number differs by at most a half; where it is a half, away from 0. -/
theorem round_bounds (x : Rat) : (roundQ x : Rat) - x ≤ 1 / 2 ∧ -(1 / 2) ≤ (roundQ x : Rat) - x ∧ ((roundQ x : Rat) - x = 1 / 2 → ¬ x < 0) ∧ ((roundQ x : Rat) - x = -(1 / 2) → ¬ 0 < x) := by
  obtain ⟨h1, h2, h3, h4⟩ := round_int x
  have hx : x * (x.den : Rat) = (x.num : Rat) := by
    have h0 : (x.den : Rat) ≠ 0 := by have := x.den_nz; exact_mod_cast this
    conv => lhs; lhs; rw [← mk_self x, Rat.mkRat_eq_div]
    exact Rat.div_mul_cancel h0
  have hD : (0 : Rat) < (x.den : Rat) := by have := x.den_pos; exact_mod_cast this
  have up : ∀ y : Rat, 2 * (x.den : Rat) * y - 2 * (x.num : Rat) = 2 * (x.den : Rat) * (y - x) := fun y => by rw [← hx]; grind
  have c1 : 2 * (x.den : Rat) * ((roundQ x : Rat) - x) ≤ x.den := by rw [← up]; have := Rat.intCast_le_intCast.mpr h1; push_cast at this; exact this
  have c2 : -(x.den : Rat) ≤ 2 * (x.den : Rat) * ((roundQ x : Rat) - x) := by rw [← up]; have := Rat.intCast_le_intCast.mpr h2; push_cast at this; exact this
  have sg : ∀ y : Rat, y < 0 → y.num < 0 := fun y hy => by
    have := (Rat.lt_iff y 0).mp hy; simpa using this
  have sg' : ∀ y : Rat, 0 < y → 0 < y.num := fun y hy => by
    have := (Rat.lt_iff 0 y).mp hy; simpa using this
  refine ⟨?_, ?_, ?_, ?_⟩
  · refine Rat.not_lt.mp fun h => ?_
    have := Rat.mul_lt_mul_of_pos_left h hD
    grind
  · refine Rat.not_lt.mp fun h => ?_
    have := Rat.mul_lt_mul_of_pos_left h hD
    grind
  · intro e hx0
    have h5 := h3 (sg x hx0)
    have c3 : 2 * (x.den : Rat) * ((roundQ x : Rat) - x) < x.den := by rw [← up]; have := Rat.intCast_lt_intCast.mpr h5; push_cast at this; exact this
    rw [e] at c3; grind
  · intro e hx0
    have h5 := h4 (Int.le_of_lt (sg' x hx0))
    have c3 : -(x.den : Rat) < 2 * (x.den : Rat) * ((roundQ x : Rat) - x) := by rw [← up]; have := Rat.intCast_lt_intCast.mpr h5; push_cast at this; exact this
    rw [e] at c3; grind
theorem cmpQ_cases (x y : Rat) : (x < y ∧ cmpQ x y = -1) ∨ (x = y ∧ cmpQ x y = 0) ∨ (y < x ∧ cmpQ x y = 1) := by
  simp only [cmpQ]
  by_cases h : x < y
  · exact .inl ⟨h, by simp [h]⟩
  · by_cases e : x = y
    · exact .inr (.inl ⟨e, by simp [e]⟩)
    · exact .inr (.inr ⟨by grind, by simp [h, e]⟩)
theorem cmpQ_lt (x y : Rat) : cmpQ x y < 0 ↔ x < y := by
  rcases cmpQ_cases x y with ⟨h, e⟩ | ⟨h, e⟩ | ⟨h, e⟩ <;> rw [e] <;> constructor <;> intro h' <;> first | exact h | omega | grind
theorem cmpQ_gt (x y : Rat) : 0 < cmpQ x y ↔ y < x := by
  rcases cmpQ_cases x y with ⟨h, e⟩ | ⟨h, e⟩ | ⟨h, e⟩ <;> rw [e] <;> constructor <;> intro h' <;> first | exact h | omega | grind
theorem cmpQ_zero (x y : Rat) : cmpQ x y = 0 ↔ x = y := by
  rcases cmpQ_cases x y with ⟨h, e⟩ | ⟨h, e⟩ | ⟨h, e⟩ <;> rw [e] <;> constructor <;> intro h' <;> first | exact h | omega | grind
theorem cmpQ_of (x y u v : Rat) (h1 : x < y ↔ u < v) (h2 : x = y ↔ u = v) : cmpQ x y = cmpQ u v := by simp only [cmpQ, h1, h2]
theorem cmpQ_flip (x y : Rat) : cmpQ y x = - cmpQ x y := by
  rcases cmpQ_cases x y with ⟨h, e⟩ | ⟨h, e⟩ | ⟨h, e⟩ <;> rcases cmpQ_cases y x with ⟨h', e'⟩ | ⟨h', e'⟩ | ⟨h', e'⟩ <;> rw [e, e'] <;> first | rfl | grind
theorem cmpQ_self (x : Rat) : cmpQ x x = 0 := (cmpQ_zero x x).mpr rfl
theorem cmpQ_trans (x y z : Rat) (h1 : cmpQ x y ≤ 0) (h2 : cmpQ y z ≤ 0) : cmpQ x z ≤ 0 := by
  rcases cmpQ_cases x y with ⟨h, e⟩ | ⟨h, e⟩ | ⟨h, e⟩ <;> rcases cmpQ_cases y z with ⟨h', e'⟩ | ⟨h', e'⟩ | ⟨h', e'⟩ <;> rcases cmpQ_cases x z with ⟨h'', e''⟩ | ⟨h'', e''⟩ | ⟨h'', e''⟩ <;> first | omega | grind
theorem cmpQ_trans' (x y z : Rat) (h1 : 0 ≤ cmpQ x y) (h2 : 0 ≤ cmpQ y z) : 0 ≤ cmpQ x z := by
  have := cmpQ_trans z y x (by rw [cmpQ_flip]; omega) (by rw [cmpQ_flip]; omega)
  rw [cmpQ_flip] at this; omega
theorem cmpQ_add (x y z : Rat) : cmpQ (x + z) (y + z) = cmpQ x y := cmpQ_of _ _ _ _ (by grind) (by grind)
theorem cmpQ_mid (x y : Rat) : cmpQ x (1 / 2 * (x + y)) = cmpQ x y ∧ cmpQ (1 / 2 * (x + y)) y = cmpQ x y := ⟨cmpQ_of _ _ _ _ (by grind) (by grind), cmpQ_of _ _ _ _ (by grind) (by grind)⟩
theorem cmpQ_mul (x y z : Rat) : cmpQ (x * z) (y * z) = cmpQ x y * cmpQ z 0 := by
  have pos : ∀ a b c : Rat, a < b → 0 < c → a * c < b * c := fun a b c h hc => by
    have := Rat.mul_lt_mul_of_pos_left h hc; grind
  have neg : ∀ a b c : Rat, a < b → c < 0 → b * c < a * c := fun a b c h hc => by
    have := Rat.mul_lt_mul_of_pos_left h (show 0 < -c by grind); grind
  rcases cmpQ_cases z 0 with ⟨h', e'⟩ | ⟨h', e'⟩ | ⟨h', e'⟩ <;> rcases cmpQ_cases x y with ⟨h, e⟩ | ⟨h, e⟩ | ⟨h, e⟩ <;> rw [e, e']
  · exact (cmpQ_cases _ _).elim (fun k => absurd k.1 (by have := neg _ _ _ h h'; grind)) fun k => k.elim (fun k => absurd k.1 (by have := neg _ _ _ h h'; grind)) fun k => k.2
  · rw [h, cmpQ_self]; rfl
  · exact (cmpQ_cases _ _).elim (fun k => k.2) fun k => k.elim (fun k => absurd k.1 (by have := neg _ _ _ h h'; grind)) fun k => absurd k.1 (by have := neg _ _ _ h h'; grind)
  · rw [h']; simp [cmpQ_self]
  · rw [h']; simp [cmpQ_self]
  · rw [h']; simp [cmpQ_self]
  · exact (cmpQ_cases _ _).elim (fun k => k.2) fun k => k.elim (fun k => absurd k.1 (by have := pos _ _ _ h h'; grind)) fun k => absurd k.1 (by have := pos _ _ _ h h'; grind)
  · rw [h, cmpQ_self]; rfl
  · exact (cmpQ_cases _ _).elim (fun k => absurd k.1 (by have := pos _ _ _ h h'; grind)) fun k => k.elim (fun k => absurd k.1 (by have := pos _ _ _ h h'; grind)) fun k => k.2

/-- The text of a value: its numerator, and a slash and its denominator where that is not 1. -/
def qdec (x : Rat) : List UInt8 := zdec x.num ++ (if x.den = 1 then [] else 47 :: Lib.decDigits x.den)
theorem dec_no (n : Nat) (c : UInt8) (hc : dgt c = false) : c ∉ Lib.decDigits n := fun h => by
  rw [dec_all n c h] at hc; cases hc
theorem zdec_no (z : Int) : (47 : UInt8) ∉ zdec z := fun h => by
  simp only [zdec] at h
  split at h
  · rcases List.mem_cons.mp h with h | h
    · cases h
    · exact dec_no _ _ rfl h
  · exact dec_no _ _ rfl h
theorem dec_inj (m n : Nat) (h : Lib.decDigits m = Lib.decDigits n) : m = n := by
  rw [← read_dec m, ← read_dec n, h]
theorem zdec_inj (z y : Int) (h : zdec z = zdec y) : z = y := by
  have no : ∀ n l, Lib.decDigits n ≠ (45 : UInt8) :: l := fun n l h => dec_no n 45 rfl (by rw [h]; exact List.mem_cons_self)
  simp only [zdec] at h
  split at h <;> split at h
  · have := dec_inj _ _ (List.cons.inj h).2; omega
  · exact absurd h.symm (no _ _)
  · exact absurd h (no _ _)
  · have := dec_inj _ _ h; omega
/-- The part before the first slash is the whole where there is none. -/
theorem split_inj : ∀ (a b : List UInt8) (u v : List UInt8), (47 : UInt8) ∉ a → (47 : UInt8) ∉ b → a ++ 47 :: u = b ++ 47 :: v → a = b ∧ u = v := by
  intro a
  induction a with
  | nil =>
    intro b u v _ hb h
    cases b with
    | nil => simpa using h
    | cons y b => simp at h; exact absurd (by rw [h.1]; exact List.mem_cons_self) hb
  | cons x a ih =>
    intro b u v ha hb h
    cases b with
    | nil => simp at h; exact absurd (by rw [h.1]; exact List.mem_cons_self) ha
    | cons y b =>
      simp at h ha hb
      obtain ⟨e, f⟩ := ih b u v ha.2 hb.2 h.2
      exact ⟨by rw [h.1, e], f⟩
theorem qdec_inj (x y : Rat) : qdec x = qdec y ↔ x = y := by
  constructor
  · intro h
    have fin : x.num = y.num → x.den = y.den → x = y := fun a b => by
      rw [← mk_self x, ← mk_self y, a, b]
    simp only [qdec] at h
    split at h <;> split at h
    · rename_i a b
      simp only [List.append_nil] at h
      exact fin (zdec_inj _ _ h) (by rw [a, b])
    · simp only [List.append_nil] at h
      exact absurd (by rw [h]; simp) (zdec_no x.num)
    · simp only [List.append_nil] at h
      exact absurd (by rw [← h]; simp) (zdec_no y.num)
    · obtain ⟨e, f⟩ := split_inj _ _ _ _ (zdec_no _) (zdec_no _) h
      exact fin (zdec_inj _ _ e) (dec_inj _ _ f)
  · rintro rfl; rfl
/-- Lowest terms are left as they are. -/
theorem low_id (z : Int) (d : Nat) (hd : d ≠ 0) (hg : Nat.gcd z.natAbs d = 1) : (mkRat z d).num = z ∧ (mkRat z d).den = d := by
  refine ⟨?_, by rw [low_den _ _ hd, hg, Nat.div_one]⟩
  simp [mkRat, hd, Rat.normalize_eq, hg]
theorem whole (z : Int) : (mkRat z 1).num = z ∧ (mkRat z 1).den = 1 := low_id z 1 (by decide) (Nat.gcd_one_right _)
theorem q_mul_s (x y : Rat) (b c : Bool) (m n : Nat) (hx : x.num = sgn b m) (hy : y.num = sgn c n) : mkRat (sgn (b != c) (m * n)) (x.den * y.den) = x * y := by
  rw [← q_mul, hx, hy]
  congr 1
  cases b <;> cases c <;> simp [sgn, Int.neg_mul, Int.mul_neg]
theorem roundQ_s (x : Rat) (b : Bool) (m : Nat) (hx : x.num = sgn b m) : sgn b ((2 * m + x.den) / (2 * x.den)) = roundQ x := by
  have hd : 0 < x.den := x.den_pos
  simp only [roundQ, hx, sgn_abs]
  rcases Nat.eq_zero_or_pos m with h0 | h0
  · subst h0
    have e : (2 * 0 + x.den) / (2 * x.den) = 0 := Nat.div_eq_of_lt (by omega)
    rw [e, sgn_zero, sgn_zero]
  · cases b
    · rw [decide_eq_false (by simp [sgn])]
    · rw [decide_eq_true (by simp [sgn]; omega)]
/-- A text with a slash: its parts are in lowest terms. -/
theorem qdec_low (z : Int) (d : Nat) (h2 : 2 ≤ d) (hg : Nat.gcd z.natAbs d = 1) : qdec (mkRat z d) = zdec z ++ 47 :: Lib.decDigits d := by
  obtain ⟨e, f⟩ := low_id z d (by omega) hg
  simp only [qdec, e, f, show d ≠ 1 by omega, if_false]
theorem qdec_whole (z : Int) : qdec (mkRat z 1) = zdec z := by
  simp only [qdec, (whole z).1, (whole z).2, if_true, List.append_nil]
end RatN
end Go.Proofs.YtohlilgnognmgaaGreatDoor
