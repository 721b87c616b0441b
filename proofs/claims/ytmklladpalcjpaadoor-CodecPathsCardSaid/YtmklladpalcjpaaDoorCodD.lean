/-
  Decimal notation of a length, read byte by byte; no program is named here.
-/
import Derived.Lib.ItoaNum
namespace Go.Proofs.YtmklladpalcjpaaDoor
namespace Cod
set_option linter.unusedVariables false

theorem rev_ind {motive : List UInt8 → Prop} (nil : motive []) (snoc : ∀ l c, motive l → motive (l ++ [c])) (l : List UInt8) : motive l := by
  have go : ∀ n (l : List UInt8), l.length = n → motive l := by
    intro n
    induction n with
    | zero => intro l h; rw [List.eq_nil_of_length_eq_zero h]; exact nil
    | succ n ih =>
      intro l h
      have hne : l ≠ [] := by intro e; rw [e] at h; simp at h
      rw [← List.dropLast_concat_getLast hne]
      exact snoc _ _ (ih _ (by rw [List.length_dropLast]; omega))
  exact go _ l rfl
def isD (c : UInt8) : Bool := decide (48 ≤ c.toNat) && decide (c.toNat ≤ 57)
theorem isD_iff (c : UInt8) : isD c = true ↔ 48 ≤ c.toNat ∧ c.toNat ≤ 57 := by simp [isD]
/-- The number that digits make behind the number a. -/
def val (a : Nat) (l : List UInt8) : Nat := l.foldl (fun a c => 10 * a + (c.toNat - 48)) a
theorem val_nil (a : Nat) : val a [] = a := rfl
theorem val_cons (a : Nat) (c : UInt8) (l : List UInt8) : val a (c :: l) = val (10 * a + (c.toNat - 48)) l := by unfold val; rw [List.foldl_cons]
theorem val_snoc (a : Nat) (l : List UInt8) (c : UInt8) : val a (l ++ [c]) = 10 * val a l + (c.toNat - 48) := by unfold val; rw [List.foldl_append, List.foldl_cons, List.foldl_nil]
theorem val_ge (l : List UInt8) : ∀ a, a ≤ val a l := by
  induction l with
  | nil => intro a; exact Nat.le_refl _
  | cons c l ih =>
    intro a
    have := ih (10 * a + (c.toNat - 48))
    rw [val_cons]
    omega
theorem chr (d : Nat) (h : d < 10) : (UInt8.ofNat (48 + d)).toNat = 48 + d := by
  simp [UInt8.toNat_ofNat']
  omega
theorem dec_one (n : Nat) (h : n < 10) : Lib.decDigits n = [UInt8.ofNat (48 + n)] := by rw [Lib.decDigits, dif_pos h]
theorem dec_big (n : Nat) (h : ¬ n < 10) : Lib.decDigits n = Lib.decDigits (n / 10) ++ [UInt8.ofNat (48 + n % 10)] := by
  rw [Lib.decDigits, dif_neg h]
theorem val_dec (n : Nat) : val 0 (Lib.decDigits n) = n := by
  induction n using Nat.strongRecOn with
  | ind n ih =>
    by_cases h : n < 10
    · rw [dec_one n h]
      show 10 * 0 + ((UInt8.ofNat (48 + n)).toNat - 48) = n
      rw [chr n h]
      omega
    · rw [dec_big n h, val_snoc, ih (n / 10) (by omega), chr _ (Nat.mod_lt _ (by omega))]
      omega
theorem dec_ne (n : Nat) : Lib.decDigits n ≠ [] := by
  by_cases h : n < 10
  · rw [dec_one n h]; simp
  · rw [dec_big n h]; simp
theorem dec_all (n : Nat) : ∀ c ∈ Lib.decDigits n, isD c = true := by
  induction n using Nat.strongRecOn with
  | ind n ih =>
    intro c hc
    by_cases h : n < 10
    · rw [dec_one n h] at hc
      rw [List.mem_singleton.1 hc, isD_iff, chr n h]
      omega
    · rw [dec_big n h] at hc
      rcases List.mem_append.1 hc with h1 | h1
      · exact ih (n / 10) (by omega) c h1
      · rw [List.mem_singleton.1 h1, isD_iff, chr _ (Nat.mod_lt _ (by omega))]
        omega
theorem dec_head (n : Nat) (h0 : 0 < n) : (Lib.decDigits n)[0]? ≠ some 48 := by
  induction n using Nat.strongRecOn with
  | ind n ih =>
    by_cases h : n < 10
    · rw [dec_one n h]
      intro e
      have h1 := chr n h
      rw [Option.some.inj e] at h1
      have : (48 : UInt8).toNat = 48 := rfl
      omega
    · rw [dec_big n h, List.getElem?_append_left (List.length_pos_iff.2 (dec_ne _))]
      exact ih (n / 10) (by omega) (by omega)
/-- Digits without a leading 0 (or the digit 0 alone). -/
def Num (l : List UInt8) : Prop := l ≠ [] ∧ (∀ c ∈ l, isD c = true) ∧ (l[0]? = some 48 → l = [48])
theorem dec_num (n : Nat) : Num (Lib.decDigits n) := by
  refine ⟨dec_ne n, dec_all n, fun h => ?_⟩
  rcases Nat.eq_zero_or_pos n with h0 | h0
  · rw [h0, dec_one 0 (by omega)]; rfl
  · exact absurd h (dec_head n h0)
theorem num_pos (l : List UInt8) (hd : ∀ c ∈ l, isD c = true) (hne : l ≠ []) (h0 : l[0]? ≠ some 48) : 0 < val 0 l := by
  cases l with
  | nil => exact absurd rfl hne
  | cons c l =>
    have h1 := (isD_iff c).1 (hd c (by simp))
    have h2 : c.toNat ≠ 48 := fun e => h0 (by
      have : c = 48 := UInt8.toNat_inj.1 e
      simp [this])
    have := val_ge l (10 * 0 + (c.toNat - 48))
    rw [val_cons]
    omega
theorem dec_val (l : List UInt8) (h : Num l) : Lib.decDigits (val 0 l) = l := by
  obtain ⟨hne, hd, hl⟩ := h
  induction l using rev_ind with
  | nil => exact absurd rfl hne
  | snoc l c ih =>
    have hc := (isD_iff c).1 (hd c (by simp))
    have hcc : UInt8.ofNat (48 + (c.toNat - 48)) = c := by
      rw [show 48 + (c.toNat - 48) = c.toNat from by omega]
      exact UInt8.ofNat_toNat
    rw [val_snoc]
    by_cases hl0 : l = []
    · subst hl0
      rw [val_nil, dec_one _ (by omega), show 48 + (10 * 0 + (c.toNat - 48)) = 48 + (c.toNat - 48) by omega, hcc]
      rfl
    · have h0 : (l ++ [c])[0]? = l[0]? := List.getElem?_append_left (List.length_pos_iff.2 hl0)
      have h1 : l[0]? ≠ some 48 := fun e => by
        have h2 := congrArg List.length (hl (by rw [h0, e]))
        have h3 := List.length_pos_iff.2 hl0
        rw [List.length_append, List.length_singleton, List.length_singleton] at h2
        omega
      have hp := num_pos l (fun x hx => hd x (by simp [hx])) hl0 h1
      rw [dec_big _ (by omega), show (10 * val 0 l + (c.toNat - 48)) / 10 = val 0 l by omega, show (10 * val 0 l + (c.toNat - 48)) % 10 = c.toNat - 48 by omega, hcc, ih hl0 (fun x hx => hd x (by simp [hx])) (fun e => absurd e h1)]
theorem dec_len (n : Nat) : ∀ k, n < 10 ^ k → 0 < k → (Lib.decDigits n).length ≤ k := by
  induction n using Nat.strongRecOn with
  | ind n ih =>
    intro k h hk
    by_cases h1 : n < 10
    · rw [dec_one n h1]; exact hk
    · rw [dec_big n h1, List.length_append]
      obtain ⟨j, rfl⟩ : ∃ j, k = j + 1 := ⟨k - 1, by omega⟩
      have hj : 0 < j := by
        rcases Nat.eq_zero_or_pos j with h0 | h0
        · subst h0; simp at h; omega
        · exact h0
      have := ih (n / 10) (by omega) j (by rw [Nat.pow_succ] at h; omega) hj
      simp
      omega
end Cod
end Go.Proofs.YtmklladpalcjpaaDoor
