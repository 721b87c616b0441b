/-
  Plain arithmetic of the long division; no program is named here.
-/
import Derived.Test.YthcoemkbdllcfaaDoorDivA
import Derived.Lib.BitFns
namespace Go.Proofs.YthcoemkbdllcfaaDoor
namespace Long

theorem bit_lo (x : Nat) (h0 : 0 < x) (h : x < 18446744073709551616) : 2 ^ (Lib.bitLen x - 1) ≤ x ∧ 1 ≤ Lib.bitLen x := by
  have h1 : 1 ≤ Lib.bitLen x := by rw [Lib.bitLen_half x (by omega) h]; omega
  refine ⟨?_, h1⟩
  rcases Nat.lt_or_ge x (2 ^ (Lib.bitLen x - 1)) with hlt | hge
  · have h2 : Lib.bitLen x ≤ 64 := Lib.bitLen_le x 64 (Nat.le_refl _) h
    have := Lib.bitLen_le x (Lib.bitLen x - 1) (by omega) hlt
    omega
  · exact hge
theorem bit_hi (x : Nat) (h : x < 18446744073709551616) : x < 2 ^ Lib.bitLen x := by
  rcases Nat.lt_or_ge x (2 ^ Lib.bitLen x) with hlt | hge
  · exact hlt
  · have h1 := Lib.bitLen_shift (Lib.bitLen x) x hge h
    have h3 := (bit_lo (x / 2 ^ Lib.bitLen x) (Nat.div_pos hge (Nat.pow_pos (by omega))) (Nat.lt_of_le_of_lt (Nat.div_le_self _ _) h)).2
    omega
/-- The shift that sets the highest bit of a limb. -/
theorem lz (x : Nat) (h0 : 0 < x) (h : x < 4294967296) : ∃ s, s + Lib.bitLen x = 32 ∧ s ≤ 31 ∧ 2147483648 ≤ x * 2 ^ s ∧ x * 2 ^ s < 4294967296 := by
  have h1 := bit_lo x h0 (by omega)
  have h2 := bit_hi x (by omega)
  have h3 : Lib.bitLen x ≤ 32 := Lib.bitLen_le x 32 (by omega) (by omega)
  refine ⟨32 - Lib.bitLen x, by omega, by omega, ?_, ?_⟩
  · have := Nat.mul_le_mul_right (2 ^ (32 - Lib.bitLen x)) h1.1
    rw [← Nat.pow_add, show Lib.bitLen x - 1 + (32 - Lib.bitLen x) = 31 from by omega] at this
    omega
  · have := Nat.mul_lt_mul_of_pos_right h2 (Nat.pow_pos (n := 32 - Lib.bitLen x) (show 0 < 2 by omega))
    rw [← Nat.pow_add, show Lib.bitLen x + (32 - Lib.bitLen x) = 32 from by omega] at this
    omega

theorem mid_mid (l r r2 : List Nat) (i : Nat) (h : i + r.length ≤ l.length) (h2 : r2.length = r.length) : mid (mid l i r) i r2 = mid l i r2 := by
  have e1 : (l.take i).length = i := by simp; omega
  unfold mid
  congr 1
  · rw [List.take_append_of_le_length (by omega), List.take_of_length_le (by omega)]
  · congr 1
    rw [List.drop_append, e1, List.drop_of_length_le (by omega), List.nil_append, List.drop_append, List.drop_of_length_le (by omega), List.nil_append, List.drop_drop]
    congr 1
    omega
theorem mid_seg (l r : List Nat) (i : Nat) (h : i + r.length ≤ l.length) : ((mid l i r).drop i).take r.length = r := by
  have e1 : (l.take i).length = i := by simp; omega
  unfold mid
  rw [List.drop_append, e1, List.drop_of_length_le (by omega), List.nil_append, Nat.sub_self, List.drop_zero, List.take_append_of_le_length (Nat.le_refl _), List.take_of_length_le (Nat.le_refl _)]
theorem mid_drop (l r : List Nat) (i : Nat) (h : i + r.length ≤ l.length) : (mid l i r).drop i = r ++ l.drop (i + r.length) := by
  have e1 : (l.take i).length = i := by simp; omega
  unfold mid
  rw [List.drop_append, e1, List.drop_of_length_le (by omega), List.nil_append, Nat.sub_self, List.drop_zero]
theorem mid_take (l r : List Nat) (i : Nat) (h : i ≤ l.length) : (mid l i r).take i = l.take i := by
  have e1 : (l.take i).length = i := by simp; omega
  unfold mid
  rw [List.take_append_of_le_length (by omega), List.take_of_length_le (by omega)]

/-- What the loop of divideLong keeps: A0 the dividend, R what is left of it, qs the digits of the quotient from place k on. -/
structure At (N D : Nat) (A0 R qs : List Nat) (k : Nat) : Prop where
  lenR : R.length = A0.length
  limR : Num.Lim R
  lenQ : k + qs.length = N
  limQ : Num.Lim qs
  eq : Num.val (A0.drop k) = Num.val qs * D + Num.val (R.drop k)
  lt : Num.val (R.drop k) < D
  pre : R.take k = A0.take k

variable {N D n k : Nat} {A0 R qs : List Nat}
theorem At.seg (a : At N D A0 R qs (k + 1)) (hD : D < Num.K ^ n) {x : Nat} (hx : R[k]? = some x) :
    Num.val ((R.drop k).take (n + 1)) = x + Num.K * Num.val (R.drop (k + 1)) := by
  rw [drop_cons hx, List.take_succ_cons, Num.val_cons, val_take_small _ _ (Nat.lt_trans a.lt hD)]
theorem At.seg_lt (a : At N D A0 R qs (k + 1)) (hD : D < Num.K ^ n) (hk : k < A0.length) : Num.val ((R.drop k).take (n + 1)) < Num.K * D := by
  obtain ⟨x, hx⟩ : ∃ x, R[k]? = some x := ⟨_, List.getElem?_eq_getElem (by rw [a.lenR]; exact hk)⟩
  rw [a.seg hD hx]
  have h1 := a.limR.at hx
  have h2 := Nat.mul_le_mul_left Num.K (show Num.val (R.drop (k + 1)) + 1 ≤ D from a.lt)
  rw [Nat.mul_add, Nat.mul_one] at h2
  omega
theorem tail_zero (T P X Y : Nat) (h : Y = T + P * X) (hT : T = Y) (hP : 0 < P) : X = 0 := by
  rcases Nat.eq_zero_or_pos X with h0 | h0
  · exact h0
  · have := Nat.mul_pos hP h0
    omega
theorem step_num (x K Q D Y V : Nat) (hV : V = x + K * Y) : x + K * (Q * D + Y) = (V / D + K * Q) * D + V % D := by
  have h := Nat.div_add_mod V D
  rw [Nat.add_mul, Nat.mul_add, Nat.mul_comm (V / D) D, Nat.mul_assoc]
  omega
theorem At.step (a : At N D A0 R qs (k + 1)) (hD : D < Num.K ^ n) (hD0 : 0 < D) (hk : k + n + 1 ≤ A0.length) {r : List Nat} (hr : r.length = n + 1) (hL : Num.Lim r) (hv : Num.val r = Num.val ((R.drop k).take (n + 1)) % D) :
    At N D A0 (mid R k r) ((Num.val ((R.drop k).take (n + 1)) / D) :: qs) k := by
  have hlen := a.lenR
  obtain ⟨x, hx⟩ : ∃ x, R[k]? = some x := ⟨_, List.getElem?_eq_getElem (by omega)⟩
  have hx0 : A0[k]? = some x := by
    have h1 := congrArg (fun l => l[k]?) a.pre
    simp only [List.getElem?_take_of_lt (show k < k + 1 by omega)] at h1
    rw [← h1]; exact hx
  have hseg := a.seg hD hx
  have htail : Num.val ((R.drop (k + 1)).drop n) = 0 := by
    have e := Num.val_split (R.drop (k + 1)) n (by simp; omega)
    exact tail_zero _ _ _ _ e (val_take_small _ _ (Nat.lt_trans a.lt hD)) (Num.pow_pos' n)
  rw [List.drop_drop] at htail
  have hdrop : Num.val ((mid R k r).drop k) = Num.val r := by
    rw [mid_drop R r k (by omega), Num.val_append, hr, show k + (n + 1) = k + 1 + n from by omega, htail, Nat.mul_zero, Nat.add_zero]
  refine ⟨by rw [mid_length R k r (by omega)]; exact hlen, mid_lim a.limR hL, by have := a.lenQ; simp; omega, Num.Lim.cons ?_ a.limQ, ?_, ?_, ?_⟩
  · rw [Nat.div_lt_iff_lt_mul hD0]
    exact a.seg_lt hD (by omega)
  · rw [drop_cons hx0, Num.val_cons, Num.val_cons, a.eq, hdrop, hv]
    exact step_num _ _ _ _ _ _ hseg
  · rw [hdrop, hv]
    exact Nat.mod_lt _ hD0
  · rw [mid_take R r k (by omega)]
    have h1 := congrArg (fun l => l.take k) a.pre
    simp only [List.take_take, Nat.min_eq_left (show k ≤ k + 1 by omega)] at h1
    exact h1
/-- The digit was right. -/
theorem digit_ok (r dg D V B : Nat) (hD : 0 < D) (h : r + dg * D = V + B * 0) (h1 : V / D ≤ dg) (h2 : dg ≤ V / D + 1) : dg = V / D ∧ r = V % D := by
  have h3 : dg * D ≤ V := by omega
  have h4 := (Nat.le_div_iff_mul_le hD).2 h3
  obtain rfl : dg = V / D := by omega
  have := Nat.div_add_mod V D
  rw [Nat.mul_comm] at this
  exact ⟨rfl, by omega⟩
/-- The digit was one too great, and the divisor is added back. -/
theorem digit_back (r r2 dg D V B cr : Nat) (hD : 0 < D) (hr : r < B) (hr2 : r2 < B) (h : r + dg * D = V + B * 1) (h1 : V / D ≤ dg) (h2 : dg ≤ V / D + 1) (hcr : cr ≤ 1) (h3 : r2 + B * cr = r + D) : 1 ≤ dg ∧ dg - 1 = V / D ∧ r2 = V % D := by
  have h4 : V < dg * D := by omega
  have h5 := (Nat.div_lt_iff_lt_mul hD).2 h4
  have h6 := Nat.div_add_mod V D
  rw [Nat.mul_comm] at h6
  generalize V / D = q at h1 h2 h5 h6 ⊢
  generalize V % D = m at h6 ⊢
  obtain rfl : dg = q + 1 := by omega
  rw [Nat.add_mul, Nat.one_mul] at h
  rcases Nat.lt_or_ge cr 1 with hc | hc
  · obtain rfl : cr = 0 := by omega
    omega
  · obtain rfl : cr = 1 := by omega
    exact ⟨by omega, by omega, by omega⟩
/-- The end: quotient and remainder of the shifted numbers. -/
theorem fin (a b s q r : Nat) (hb : 0 < b) (h : a * 2 ^ s = q * (b * 2 ^ s) + r) (hr : r < b * 2 ^ s) : q = a / b ∧ r / 2 ^ s = a % b := by
  have hp : 0 < 2 ^ s := Nat.pow_pos (by omega)
  have e1 : a * 2 ^ s / (b * 2 ^ s) = a / b := Nat.mul_div_mul_right a b hp
  have e2 : a * 2 ^ s % (b * 2 ^ s) = a % b * 2 ^ s := Nat.mul_mod_mul_right _ a b
  have hbp : 0 < b * 2 ^ s := Nat.mul_pos hb hp
  have e3 : (q * (b * 2 ^ s) + r) / (b * 2 ^ s) = q := by
    rw [Nat.add_comm, Nat.add_mul_div_right _ _ hbp, Nat.div_eq_of_lt hr, Nat.zero_add]
  have e4 : (q * (b * 2 ^ s) + r) % (b * 2 ^ s) = r := by
    rw [Nat.add_comm, Nat.add_mul_mod_self_right, Nat.mod_eq_of_lt hr]
  rw [← h] at e3 e4
  exact ⟨by omega, by rw [← e4, e2, Nat.mul_div_cancel _ hp]⟩
end Long
end Go.Proofs.YthcoemkbdllcfaaDoor
