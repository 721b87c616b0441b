/-
  Plain arithmetic of decimal notation: groups of nine digits; no program is named here.
-/
import Derived.Test.YthcoemkbdllcfaaDoorNum
import Derived.Lib.ItoaNum
import Derived.Lib.ItoaMem
namespace Go.Proofs.YthcoemkbdllcfaaDoor
namespace Txt

/-- The last k digits of g. -/
def pad : Nat → Nat → List UInt8
  | 0, _ => []
  | k + 1, g => pad k (g / 10) ++ [UInt8.ofNat (48 + g % 10)]
theorem dec_pad (n : Nat) (hn : 0 < n) : ∀ k g, g < 10 ^ k → Lib.decDigits (n * 10 ^ k + g) = Lib.decDigits n ++ pad k g := by
  intro k
  induction k with
  | zero => intro g hg; have : g = 0 := by simpa using hg
            subst this; simp [pad]
  | succ k ih =>
    intro g hg
    have h10 : 10 ≤ n * 10 ^ (k + 1) + g := by
      have : 1 * 10 ≤ n * 10 ^ (k + 1) := Nat.mul_le_mul hn (by rw [Nat.pow_succ]; have := Nat.pow_pos (n := k) (show 0 < 10 by omega); omega)
      omega
    have e1 : (n * 10 ^ (k + 1) + g) / 10 = n * 10 ^ k + g / 10 := by
      rw [Nat.pow_succ, ← Nat.mul_assoc]
      generalize n * 10 ^ k = a
      omega
    have e2 : (n * 10 ^ (k + 1) + g) % 10 = g % 10 := by
      rw [Nat.pow_succ, ← Nat.mul_assoc]
      generalize n * 10 ^ k = a
      omega
    rw [Lib.decDigits, dif_neg (by omega), e1, e2, ih (g / 10) (by rw [Nat.pow_succ] at hg; omega), List.append_assoc]
    rfl
theorem pad_nine (g : Nat) (hg : g < 1000000000) : Lib.decDigits (1000000000 + g) = 49 :: pad 9 g := by
  have h := dec_pad 1 (by omega) 9 g hg
  rw [Nat.one_mul] at h
  rw [show (1000000000 : Nat) = 10 ^ 9 from rfl, h, Lib.decDigits_one (by omega)]
  rfl
/-- The value of groups of nine digits. -/
def v9 : List Nat → Nat
  | [] => 0
  | x :: l => x + 1000000000 * v9 l
def G9 (l : List Nat) : Prop := ∀ x ∈ l, x < 1000000000
theorem v9_snoc (l : List Nat) (x : Nat) : v9 (l ++ [x]) = v9 l + 1000000000 ^ l.length * x := by
  induction l with
  | nil => simp [v9]
  | cons y l ih => simp only [List.cons_append, v9, ih, List.length_cons, Nat.pow_succ]; rw [Nat.mul_add, ← Nat.mul_assoc, Nat.mul_comm 1000000000 (1000000000 ^ l.length)]; omega
theorem v9_pos {l : List Nat} (hne : l ≠ []) (hl : l.getLast? ≠ some 0) : 0 < v9 l := by
  induction l with
  | nil => exact absurd rfl hne
  | cons x l ih =>
    by_cases h : l = []
    · subst h
      have : x ≠ 0 := by intro e; apply hl; simp [e]
      simp only [v9]; omega
    · have h2 := ih h (by rwa [List.getLast?_cons_of_ne_nil h] at hl)
      simp only [v9]
      omega
theorem getLast_drop {l : List Nat} {k : Nat} (hk : k < l.length) (hl : l.getLast? ≠ some 0) : (l.drop k).getLast? ≠ some 0 := by
  rw [List.getLast?_drop]
  rw [if_neg (by omega)]
  exact hl
/-- One group more is written. -/
theorem text_step {l : List Nat} {k x : Nat} (hx : l[k]? = some x) (hk : k + 1 < l.length) (hG : G9 l) (hl : l.getLast? ≠ some 0) : Lib.decDigits (v9 (l.drop k)) = Lib.decDigits (v9 (l.drop (k + 1))) ++ pad 9 x := by
  have hx9 : x < 1000000000 := hG x (List.mem_of_getElem? hx)
  have e : l.drop k = x :: l.drop (k + 1) := by
    have hk' := (List.getElem?_eq_some_iff.1 hx).1
    rw [List.drop_eq_getElem_cons hk', (List.getElem?_eq_some_iff.1 hx).2]
  have hp : 0 < v9 (l.drop (k + 1)) := v9_pos (by intro e; have := congrArg List.length e; simp at this; omega) (getLast_drop hk hl)
  rw [e, v9]
  have h := dec_pad (v9 (l.drop (k + 1))) hp 9 x hx9
  rw [show (10 : Nat) ^ 9 = 1000000000 from rfl] at h
  rw [← h]
  congr 1
  omega
theorem text_last {l : List Nat} {k x : Nat} (hx : l[k]? = some x) (hk : k + 1 = l.length) : v9 (l.drop k) = x := by
  have hk' := (List.getElem?_eq_some_iff.1 hx).1
  rw [List.drop_eq_getElem_cons hk', List.drop_of_length_le (by omega), (List.getElem?_eq_some_iff.1 hx).2]
  simp [v9]
theorem pad_length : ∀ k g, (pad k g).length = k := by
  intro k
  induction k with
  | zero => intro g; rfl
  | succ k ih => intro g; simp [pad, ih]
theorem dec_length_le (n : Nat) : ∀ k, n < 10 ^ k → 0 < k → (Lib.decDigits n).length ≤ k := by
  intro k
  induction k generalizing n with
  | zero => intro _ h; omega
  | succ k ih =>
    intro hn _
    by_cases h : n < 10
    · rw [Lib.decDigits_one h]; simp
    · have h0 : 0 < k := by
        rcases Nat.eq_zero_or_pos k with h0 | h0
        · subst h0; simp at hn; omega
        · exact h0
      rw [Lib.decDigits, dif_neg h, List.length_append]
      have := ih (n / 10) (by rw [Nat.pow_succ] at hn; omega) h0
      simp
      omega
end Txt
end Go.Proofs.YthcoemkbdllcfaaDoor
