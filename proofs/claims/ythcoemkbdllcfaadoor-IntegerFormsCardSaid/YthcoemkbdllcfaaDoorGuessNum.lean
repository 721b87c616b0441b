/-
  Plain arithmetic behind the guessed digit of a long division; no program is named here.
-/
import Derived.Test.YthcoemkbdllcfaaDoorNum
namespace Go.Proofs.YthcoemkbdllcfaaDoor
namespace Guess

/-- V is the dividend, D the divisor, T and h their leading parts, P the weight of the rest. -/
structure At (K P h s T p V D : Nat) : Prop where
  hK : 0 < K
  hP : 0 < P
  hh : 0 < h
  hs : s < K
  hp : p < K
  hD1 : P * (s + K * h) ≤ D
  hD2 : D < P * (s + K * h) + P
  hV1 : P * (p + K * T) ≤ V
  hV2 : V < P * (p + K * T) + P
  hVD : V < K * D

variable {K P h s T p V D : Nat}
theorem At.dpos (a : At K P h s T p V D) : 0 < D := by
  have h1 : 0 < s + K * h := Nat.add_pos_right _ (Nat.mul_pos a.hK a.hh)
  exact Nat.lt_of_lt_of_le (Nat.mul_pos a.hP h1) a.hD1
theorem At.q_lt (a : At K P h s T p V D) : V / D < K := by
  rw [Nat.div_lt_iff_lt_mul a.dpos]; exact a.hVD
theorem At.top (a : At K P h s T p V D) : T < K * (h + 1) := by
  have h1 : P * (K * T) < P * (K * (K * (h + 1))) := by
    have e1 : P * (K * T) ≤ P * (p + K * T) := Nat.mul_le_mul_left _ (by omega)
    have e2 : s + K * h + 1 ≤ K * (h + 1) := by rw [Nat.mul_add, Nat.mul_one]; have := a.hs; omega
    have e3 : D < P * (K * (h + 1)) := by
      have := Nat.mul_le_mul_left P e2
      rw [Nat.mul_add, Nat.mul_one] at this
      have := a.hD2
      omega
    have e4 : K * D ≤ K * (P * (K * (h + 1))) := Nat.mul_le_mul_left _ (by omega)
    have e5 : K * (P * (K * (h + 1))) = P * (K * (K * (h + 1))) := by rw [← Nat.mul_assoc, Nat.mul_comm K P, Nat.mul_assoc]
    have := a.hV1
    have := a.hVD
    omega
  exact Nat.lt_of_mul_lt_mul_left (Nat.lt_of_mul_lt_mul_left h1)
theorem At.start (a : At K P h s T p V D) : V / D ≤ T / h := by
  rw [Nat.le_div_iff_mul_le a.hh]
  have h1 : V / D * D ≤ V := Nat.div_mul_le_self V D
  have h2 : V / D * (P * (K * h)) ≤ V / D * D := Nat.mul_le_mul_left _ (Nat.le_trans (Nat.mul_le_mul_left _ (by omega)) a.hD1)
  have h3 : P * (p + K * T) + P ≤ P * (K * (T + 1)) := by
    have : p + K * T + 1 ≤ K * (T + 1) := by rw [Nat.mul_add, Nat.mul_one]; have := a.hp; omega
    have := Nat.mul_le_mul_left P this
    rwa [Nat.mul_add, Nat.mul_one] at this
  have h4 : V / D * (P * (K * h)) < P * (K * (T + 1)) := by have := a.hV2; omega
  have e : V / D * (P * (K * h)) = P * (K * (V / D * h)) := by
    rw [← Nat.mul_assoc, Nat.mul_comm (V / D) P, Nat.mul_assoc, ← Nat.mul_assoc (V / D), Nat.mul_comm (V / D) K, Nat.mul_assoc]
  rw [e] at h4
  have := Nat.lt_of_mul_lt_mul_left (Nat.lt_of_mul_lt_mul_left h4)
  omega
theorem At.big (a : At K P h s T p V D) {dg : Nat} (hd : K ≤ dg) : V / D ≤ dg - 1 := by have := a.q_lt; omega
theorem At.less (a : At K P h s T p V D) {dg r : Nat} (he : dg * h + r = T) (hl : r * K + p < dg * s) : V / D ≤ dg - 1 := by
  have h1 : V < dg * D := by
    have h2 : dg * (P * (s + K * h)) ≤ dg * D := Nat.mul_le_mul_left _ a.hD1
    have e1 : dg * (P * (s + K * h)) = P * (dg * s + K * (dg * h)) := by
      rw [← Nat.mul_assoc, Nat.mul_comm dg P, Nat.mul_assoc, Nat.mul_add, ← Nat.mul_assoc dg K h, Nat.mul_comm dg K, Nat.mul_assoc]
    have h3 : p + K * T + 1 ≤ dg * s + K * (dg * h) := by
      rw [← he, Nat.mul_add, Nat.mul_comm K r]
      omega
    have h4 := Nat.mul_le_mul_left P h3
    rw [Nat.mul_add, Nat.mul_one] at h4
    have := a.hV2
    omega
  have : V / D < dg := by rw [Nat.div_lt_iff_lt_mul a.dpos]; exact h1
  omega
theorem At.upper (a : At K P h s T p V D) {dg r : Nat} (he : dg * h + r = T) (hd : dg < K) (hl : dg * s ≤ r * K + p) : dg ≤ V / D + 1 := by
  have h1 : dg * D ≤ V + D := by
    obtain ⟨y, hy⟩ : ∃ y, D = P * (s + K * h) + y := ⟨D - P * (s + K * h), by have := a.hD1; omega⟩
    have hyP : y < P := by have := a.hD2; omega
    have e1 : dg * (P * (s + K * h)) = P * (dg * s + K * (dg * h)) := by
      rw [← Nat.mul_assoc, Nat.mul_comm dg P, Nat.mul_assoc, Nat.mul_add, ← Nat.mul_assoc dg K h, Nat.mul_comm dg K, Nat.mul_assoc]
    have h3 : dg * s + K * (dg * h) ≤ p + K * T := by
      rw [← he, Nat.mul_add, Nat.mul_comm K r]
      omega
    have h4 := Nat.mul_le_mul_left P h3
    have h5 : dg * y ≤ K * P := Nat.mul_le_mul (by omega) (by omega)
    have h6 : P * K ≤ P * (s + K * h) := Nat.mul_le_mul_left _ (by have := Nat.mul_le_mul_left K a.hh; omega)
    have := a.hV1
    rw [hy, Nat.mul_add, e1]
    rw [Nat.mul_comm K P] at h5
    omega
  have h2 : (dg - 1) * D ≤ V := by
    rw [Nat.sub_mul, Nat.one_mul]
    omega
  have := (Nat.le_div_iff_mul_le a.dpos).2 h2
  omega
theorem At.brk (a : At K P h s T p V D) {dg r : Nat} (he : dg * h + r = T) (hr : K ≤ r) : dg < K ∧ dg * s ≤ r * K + p := by
  have ht := a.top
  have h1 : dg * h < K * h := by
    rw [Nat.mul_add, Nat.mul_one] at ht
    omega
  have h2 : dg < K := Nat.lt_of_mul_lt_mul_right h1
  have h3 : dg * s ≤ K * K := Nat.mul_le_mul (by omega) (by have := a.hs; omega)
  have h4 : K * K ≤ r * K := Nat.mul_le_mul_right _ hr
  exact ⟨h2, by omega⟩

/-- The leading limbs of two numbers of n + 2 and n + 3 limbs. -/
theorem At.of (d p : List Nat) (n s h p2 p1 p0 : Nat) (hd : d.length = n + 2) (hp : p.length = n + 3) (hLd : Num.Lim d) (hLp : Num.Lim p)
    (e1 : d[n]? = some s) (e2 : d[n + 1]? = some h) (e3 : p[n]? = some p2) (e4 : p[n + 1]? = some p1) (e5 : p[n + 2]? = some p0) (hh : 0 < h) (hVD : Num.val p < Num.K * Num.val d) :
    At Num.K (Num.K ^ n) h s (p0 * Num.K + p1) p2 (Num.val p) (Num.val d) := by
  have cons : ∀ (l : List Nat) (k x : Nat), l[k]? = some x → l.drop k = x :: l.drop (k + 1) := fun l k x hx => by
    have hk := (List.getElem?_eq_some_iff.1 hx).1
    rw [List.drop_eq_getElem_cons hk, (List.getElem?_eq_some_iff.1 hx).2]
  have d1 := Num.val_split d n (by omega)
  have d2 := Num.val_lt (d.take n) (hLd.take n)
  rw [List.length_take, Nat.min_eq_left (by omega)] at d2
  rw [cons d n s e1, cons d (n + 1) h e2, List.drop_of_length_le (by omega)] at d1
  have p1' := Num.val_split p n (by omega)
  have p2' := Num.val_lt (p.take n) (hLp.take n)
  rw [List.length_take, Nat.min_eq_left (by omega)] at p2'
  rw [cons p n p2 e3, cons p (n + 1) p1 e4, cons p (n + 2) p0 e5, List.drop_of_length_le (by omega)] at p1'
  simp only [Num.val_cons, Num.val_nil, Nat.mul_zero, Nat.add_zero] at d1 p1'
  rw [show p1 + Num.K * p0 = p0 * Num.K + p1 from by rw [Nat.mul_comm]; omega] at p1'
  exact ⟨Num.K_pos, Num.pow_pos' n, hh, hLd.at e1, hLp.at e3, by omega, by omega, by omega, by omega, hVD⟩
end Guess
end Go.Proofs.YthcoemkbdllcfaaDoor
