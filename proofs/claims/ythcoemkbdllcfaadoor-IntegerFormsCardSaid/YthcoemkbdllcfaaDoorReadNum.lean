/-
  Plain facts on decimal notation: reading what was written gives the number back, and the other way round; no program is named here.
-/
import Derived.Test.YthcoemkbdllcfaaDoorNumeral
import Derived.Test.YthcoemkbdllcfaaDoorTextNum
namespace Go.Proofs.YthcoemkbdllcfaaDoor
namespace Txt

theorem rev_ind {motive : List UInt8 → Prop} (nil : motive []) (snoc : ∀ l c, motive l → motive (l ++ [c])) (l : List UInt8) : motive l := by
  have go : ∀ n (l : List UInt8), l.length = n → motive l := by
    intro n
    induction n with
    | zero => intro l h; rw [List.eq_nil_of_length_eq_zero h]; exact nil
    | succ n ih =>
      intro l h
      have hne : l ≠ [] := by intro e; rw [e] at h; simp at h
      rw [← List.dropLast_concat_getLast hne]
      exact snoc _ _ (ih _ (by rw [List.length_dropLast]; omega))
  exact go _ l rfl
theorem chr (d : Nat) (h : d < 10) : (UInt8.ofNat (48 + d)).toNat = 48 + d := by
  simp [UInt8.toNat_ofNat']
  omega
theorem chr_dgt (d : Nat) (h : d < 10) : dgt (UInt8.ofNat (48 + d)) = true := by
  have := chr d h
  exact dgt_of _ (by omega) (by omega)
theorem dec_big (n : Nat) (h : ¬ n < 10) : Lib.decDigits n = Lib.decDigits (n / 10) ++ [UInt8.ofNat (48 + n % 10)] := by
  rw [Lib.decDigits, dif_neg h]
theorem read_dec (n : Nat) : decVal (Lib.decDigits n) = n := by
  induction n using Nat.strongRecOn with
  | ind n ih =>
    by_cases h : n < 10
    · rw [Lib.decDigits_one h]
      simp only [decVal, List.foldl_cons, List.foldl_nil, chr n h]
      omega
    · rw [dec_big n h, decVal_snoc, ih (n / 10) (by omega), chr _ (Nat.mod_lt _ (by omega))]
      omega
theorem dec_ne (n : Nat) : Lib.decDigits n ≠ [] := by
  by_cases h : n < 10
  · rw [Lib.decDigits_one h]; simp
  · rw [dec_big n h]; simp
theorem dec_all (n : Nat) : ∀ c ∈ Lib.decDigits n, dgt c = true := by
  induction n using Nat.strongRecOn with
  | ind n ih =>
    intro c hc
    by_cases h : n < 10
    · rw [Lib.decDigits_one h] at hc
      rw [List.mem_singleton.1 hc]
      exact chr_dgt n h
    · rw [dec_big n h] at hc
      rcases List.mem_append.1 hc with h1 | h1
      · exact ih (n / 10) (by omega) c h1
      · rw [List.mem_singleton.1 h1]
        exact chr_dgt _ (Nat.mod_lt _ (by omega))
theorem dec_head (n : Nat) (h0 : 0 < n) : (Lib.decDigits n)[0]? ≠ some 48 := by
  induction n using Nat.strongRecOn with
  | ind n ih =>
    by_cases h : n < 10
    · rw [Lib.decDigits_one h]
      intro e
      have h1 := chr n h
      rw [Option.some.inj e] at h1
      have : (48 : UInt8).toNat = 48 := rfl
      omega
    · rw [dec_big n h, List.getElem?_append_left (List.length_pos_iff.2 (dec_ne _))]
      exact ih (n / 10) (by omega) (by omega)
theorem dec_isNum (n : Nat) : isNum (Lib.decDigits n) = true := by
  refine isNum_ok (dec_ne n) ?_ (fun j c h => dec_all n c (List.mem_of_getElem? h))
  rintro ⟨h1, h2⟩
  rcases Nat.eq_zero_or_pos n with h0 | h0
  · rw [h0, Lib.decDigits_one (by omega)] at h2
    simp at h2
  · exact dec_head n h0 h1
theorem decVal_pos (l : List UInt8) (hd : ∀ c ∈ l, 48 ≤ c.toNat ∧ c.toNat ≤ 57) (hne : l ≠ []) (h0 : l[0]? ≠ some 48) : 0 < decVal l := by
  induction l using rev_ind with
  | nil => exact absurd rfl hne
  | snoc l c ih =>
    rw [decVal_snoc]
    by_cases hl : l = []
    · subst hl
      have hc := hd c (by simp)
      have : c ≠ 48 := by intro e; apply h0; simp [e]
      have : c.toNat ≠ 48 := by intro e; exact this (UInt8.toNat_inj.1 e)
      omega
    · have := ih (fun x hx => hd x (by simp [hx])) hl (by rwa [List.getElem?_append_left (List.length_pos_iff.2 hl)] at h0)
      omega
theorem dec_read (l : List UInt8) (h : isNum l = true) : Lib.decDigits (decVal l) = l := by
  have hd : ∀ c ∈ l, 48 ≤ c.toNat ∧ c.toNat ≤ 57 := fun c hc => by
    obtain ⟨j, hj⟩ := List.getElem?_of_mem hc
    exact isNum_dgt h hj
  have hlead : ¬ (l[0]? = some 48 ∧ 1 < l.length) := fun ⟨h1, h2⟩ => by rw [isNum_lead h1 h2] at h; cases h
  have hne : l ≠ [] := by intro e; rw [e] at h; cases h
  clear h
  induction l using rev_ind with
  | nil => exact absurd rfl hne
  | snoc l c ih =>
    have hc := hd c (by simp)
    have hcc : UInt8.ofNat (48 + (c.toNat - 48)) = c := by
      rw [show 48 + (c.toNat - 48) = c.toNat from by omega]
      exact UInt8.ofNat_toNat
    rw [decVal_snoc]
    by_cases hl : l = []
    · subst hl
      simp only [decVal, List.foldl_nil, Nat.mul_zero, Nat.zero_add, List.nil_append]
      rw [Lib.decDigits_one (by omega), hcc]
    · have hlen := List.length_pos_iff.2 hl
      have h0 : l[0]? ≠ some 48 := fun e => hlead ⟨by rw [List.getElem?_append_left hlen]; exact e, by simp; omega⟩
      have hp := decVal_pos l (fun x hx => hd x (by simp [hx])) hl h0
      rw [dec_big _ (by omega), show (10 * decVal l + (c.toNat - 48)) / 10 = decVal l from by omega, show (10 * decVal l + (c.toNat - 48)) % 10 = c.toNat - 48 from by omega, hcc, ih (fun x hx => hd x (by simp [hx])) (fun h => h0 h.1) hl]
end Txt
end Go.Proofs.YthcoemkbdllcfaaDoor
