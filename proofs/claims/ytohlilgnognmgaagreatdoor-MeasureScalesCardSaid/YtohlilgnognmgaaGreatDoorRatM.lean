/-
  Plain arithmetic for the walks of ratios: a fraction of two integers as a rational number; sums, products and comparisons of fractions; what is rounded. No program is named here.
-/
import Derived.Test.YtohlilgnognmgaaGreatDoorRatNum
namespace Go.Proofs.YtohlilgnognmgaaGreatDoor
namespace RatN
set_option linter.unusedVariables false

theorem nz {d : Nat} (h : 0 < d) : (d : Rat) ≠ 0 := by
  have : d ≠ 0 := by omega
  exact_mod_cast this
theorem pos {d : Nat} (h : 0 < d) : (0 : Rat) < (d : Rat) := by exact_mod_cast h
theorem mk_div (z : Int) (d : Nat) : mkRat z d = (z : Rat) / (d : Rat) := Rat.mkRat_eq_div z d
theorem zcast (d : Nat) : (((d : Int) : Rat)) = (d : Rat) := by exact_mod_cast rfl
/-- What reduce leaves: a numerator and a denominator, each with a sign. -/
theorem red_eq (b c : Bool) (m n : Nat) (hn : n ≠ 0) : mkRat (sgn (b != c) m) n = ((sgn b m : Int) : Rat) / ((sgn c n : Int) : Rat) := by
  have h : (n : Rat) ≠ 0 := nz (by omega)
  rw [mk_div]
  have e : ∀ x : Int, ((-x : Int) : Rat) = -(x : Rat) := fun x => by push_cast; rfl
  cases b <;> cases c <;> simp only [sgn, if_true, if_false, Bool.false_eq_true, bne_self_eq_false, e, zcast, show (true != false) = true from rfl, show (false != true) = true from rfl] <;> grind
theorem fr_add (z y : Int) (d e : Nat) (hd : 0 < d) (he : 0 < e) : ((z * (e : Int) + y * (d : Int) : Int) : Rat) / (((d : Int) * (e : Int) : Int) : Rat) = (z : Rat) / (d : Rat) + (y : Rat) / (e : Rat) := by
  have h1 := nz hd
  have h2 := nz he
  push_cast
  grind
theorem fr_sub (z y : Int) (d e : Nat) (hd : 0 < d) (he : 0 < e) : ((z * (e : Int) - y * (d : Int) : Int) : Rat) / (((d : Int) * (e : Int) : Int) : Rat) = (z : Rat) / (d : Rat) - (y : Rat) / (e : Rat) := by
  have h1 := nz hd
  have h2 := nz he
  push_cast
  grind
theorem fr_mul (z y : Int) (d e : Nat) (hd : 0 < d) (he : 0 < e) : ((z * y : Int) : Rat) / (((d : Int) * (e : Int) : Int) : Rat) = (z : Rat) / (d : Rat) * ((y : Rat) / (e : Rat)) := by
  have h1 := nz hd
  have h2 := nz he
  push_cast
  grind
theorem fr_neg (z : Int) (d : Nat) : ((-z : Int) : Rat) / (((d : Int) : Int) : Rat) = -((z : Rat) / (d : Rat)) := by
  push_cast
  grind
theorem fr_id (z : Int) (d : Nat) : (z : Rat) / (((d : Int) : Int) : Rat) = (z : Rat) / (d : Rat) := by
  rw [zcast]
theorem fr_div (z y : Int) (d e : Nat) (hd : 0 < d) (he : 0 < e) (hy : y * (d : Int) ≠ 0) : ((z * (e : Int) : Int) : Rat) / ((y * (d : Int) : Int) : Rat) = (z : Rat) / (d : Rat) / ((y : Rat) / (e : Rat)) := by
  have h1 := nz hd
  have h2 := nz he
  have h3 : (y : Rat) ≠ 0 := by
    have : y ≠ 0 := by rintro rfl; simp at hy
    exact_mod_cast this
  push_cast
  grind
theorem fr_zero (y : Int) (d e : Nat) (hd : 0 < d) (he : 0 < e) : y * (d : Int) = 0 ↔ (y : Rat) / (e : Rat) = 0 := by
  have h2 := nz he
  have h1 : (d : Int) ≠ 0 := by omega
  constructor
  · intro h
    rcases Int.mul_eq_zero.mp h with h | h
    · subst h; push_cast; grind
    · exact absurd h h1
  · intro h
    have : (y : Rat) = 0 := by grind
    have hy : y = 0 := by exact_mod_cast this
    rw [hy, Int.zero_mul]
theorem fr_cmp (z y : Int) (d e : Nat) (hd : 0 < d) (he : 0 < e) : cmpZ (z * (e : Int)) (y * (d : Int)) = cmpQ ((z : Rat) / (d : Rat)) ((y : Rat) / (e : Rat)) := by
  have h1 := pos hd
  have h2 := pos he
  have n1 := nz hd
  have n2 := nz he
  have hp : (0 : Rat) < (d : Rat) * (e : Rat) := Rat.mul_pos h1 h2
  have ex : (z : Rat) / (d : Rat) * ((d : Rat) * (e : Rat)) = ((z * (e : Int) : Int) : Rat) := by push_cast; grind
  have ey : (y : Rat) / (e : Rat) * ((d : Rat) * (e : Rat)) = ((y * (d : Int) : Int) : Rat) := by push_cast; grind
  generalize (z : Rat) / (d : Rat) = x at *
  generalize (y : Rat) / (e : Rat) = v at *
  generalize z * (e : Int) = p at *
  generalize y * (d : Int) = q at *
  have hc := cmpQ_mul x v ((d : Rat) * (e : Rat))
  have h0 : cmpQ ((d : Rat) * (e : Rat)) 0 = 1 := by
    rcases cmpQ_cases ((d : Rat) * (e : Rat)) 0 with ⟨h, k⟩ | ⟨h, k⟩ | ⟨h, k⟩
    · grind
    · grind
    · exact k
  rw [h0, Int.mul_one, ex, ey] at hc
  rw [← hc]
  have a1 : (p : Rat) < (q : Rat) ↔ p < q := Rat.intCast_lt_intCast
  have a2 : (p : Rat) = (q : Rat) ↔ p = q := Rat.intCast_inj
  simp only [cmpZ, cmpQ, a1, a2]
theorem fr_floor (z : Int) (d : Nat) (hd : 0 < d) : z / (d : Int) = ((z : Rat) / (d : Rat)).floor := by
  have h1 := pos hd
  have n1 := nz hd
  have e1 : z / (d : Int) * (d : Int) ≤ z := Int.ediv_mul_le z (by omega)
  have e2 : z < (z / (d : Int) + 1) * (d : Int) := Int.lt_ediv_add_one_mul_self z (by omega)
  generalize z / (d : Int) = f at *
  have b1 : (f : Rat) * (d : Rat) ≤ (z : Rat) := by have := Rat.intCast_le_intCast.mpr e1; push_cast at this; exact this
  have b2 : (z : Rat) < ((f : Rat) + 1) * (d : Rat) := by have := Rat.intCast_lt_intCast.mpr e2; push_cast at this; exact this
  have ex : (z : Rat) / (d : Rat) * (d : Rat) = (z : Rat) := by grind
  generalize (z : Rat) / (d : Rat) = x at *
  rw [← ex] at b1 b2
  have c1 : (f : Rat) ≤ x := by
    refine Rat.not_lt.mp fun h => ?_
    have := Rat.mul_lt_mul_of_pos_left h h1
    grind
  have c2 : x < (f : Rat) + 1 := by
    refine Rat.not_le.mp fun h => ?_
    have := Rat.mul_le_mul_of_nonneg_left h (Rat.le_of_lt h1)
    grind
  have k1 := Rat.floor_le x
  have k2 := Rat.lt_floor_add_one x
  have a1 : ((f : Int) : Rat) < ((x.floor + 1 : Int) : Rat) := by push_cast; grind
  have a2 : ((x.floor : Int) : Rat) < ((f + 1 : Int) : Rat) := by push_cast; grind
  have d1 := Rat.intCast_lt_intCast.mp a1
  have d2 := Rat.intCast_lt_intCast.mp a2
  omega
theorem fr_round (b : Bool) (m d : Nat) (hd : 0 < d) : sgn b ((m + m + d) / (d + d)) = roundQ (((sgn b m : Int) : Rat) / (d : Rat)) := by
  rw [← mk_div]
  have hn := low_num b m d (by omega)
  have hdn := low_den' b m d (by omega)
  have hg : 0 < Nat.gcd m d := Nat.gcd_pos_of_pos_right _ hd
  have k := roundQ_s _ b (m / Nat.gcd m d) hn
  rw [← k, hdn]
  congr 1
  have e1 := Nat.mul_div_cancel' (Nat.gcd_dvd_left m d)
  have e2 := Nat.mul_div_cancel' (Nat.gcd_dvd_right m d)
  generalize Nat.gcd m d = g at *
  generalize m / g = p at *
  generalize d / g = q at *
  subst e1 e2
  have x1 : g * p + g * p + g * q = g * (2 * p + q) := by grind
  have x2 : g * q + g * q = g * (2 * q) := by grind
  rw [x1, x2]
  exact Nat.mul_div_mul_left _ _ hg
end RatN
end Go.Proofs.YtohlilgnognmgaaGreatDoor
