/-
  Hexadecimal notation of sixteen digits in plain words. No program is named here.
-/
import Derived.Test.YtlinmhmhgnhmeaaDigN
namespace Go.Proofs.Ytlinmhmhgnhmeaa
namespace Dig
set_option linter.unusedVariables false

/-- A digit's sign. -/
def dig (k : Nat) : UInt8 := if k < 10 then UInt8.ofNat (48 + k) else UInt8.ofNat (87 + k)
/-- Is the byte a digit (0 to 9, a to f)? -/
def isX (c : UInt8) : Bool := decide (48 ≤ c.toNat) && decide (c.toNat ≤ 57) || decide (97 ≤ c.toNat) && decide (c.toNat ≤ 102)
/-- The value of a digit. -/
def vl (c : UInt8) : Nat := if c.toNat ≤ 57 then c.toNat - 48 else c.toNat - 87
/-- n digits of a number. -/
def hxn : Nat → Nat → List UInt8
  | 0, d => []
  | n + 1, d => hxn n (d / 16) ++ [dig (d % 16)]
def hx (d : Nat) : List UInt8 := hxn 16 d
/-- The number that digits make behind the number a. -/
def vx (a : Nat) (l : List UInt8) : Nat := l.foldl (fun a c => 16 * a + vl c) a
/-- Parse. -/
def px (s : List UInt8) : Except Nat Nat :=
  if s.length = 16 ∧ (∀ c ∈ s, isX c = true) then (if vx 0 s < P then .ok (vx 0 s) else .error 3) else .error 2
theorem vx_nil (a : Nat) : vx a [] = a := rfl
theorem vx_cons (a : Nat) (c : UInt8) (l : List UInt8) : vx a (c :: l) = vx (16 * a + vl c) l := by unfold vx; rw [List.foldl_cons]
theorem vx_snoc (a : Nat) (l : List UInt8) (c : UInt8) : vx a (l ++ [c]) = 16 * vx a l + vl c := by unfold vx; rw [List.foldl_append, List.foldl_cons, List.foldl_nil]
theorem isX_iff (c : UInt8) : isX c = true ↔ 48 ≤ c.toNat ∧ c.toNat ≤ 57 ∨ 97 ≤ c.toNat ∧ c.toNat ≤ 102 := by simp [isX]
theorem vl_lt (c : UInt8) (h : isX c = true) : vl c < 16 := by
  rcases (isX_iff c).1 h with h | h
  · unfold vl; rw [if_pos h.2]; omega
  · unfold vl; rw [if_neg (by omega)]; omega
theorem dig_nat (k : Nat) (h : k < 16) : (dig k).toNat = if k < 10 then 48 + k else 87 + k := by
  unfold dig
  by_cases h1 : k < 10
  · rw [if_pos h1, if_pos h1, UInt8.toNat_ofNat']; omega
  · rw [if_neg h1, if_neg h1, UInt8.toNat_ofNat']; omega
theorem dig_is (k : Nat) (h : k < 16) : isX (dig k) = true := by
  rw [isX_iff, dig_nat k h]
  by_cases h1 : k < 10
  · rw [if_pos h1]; omega
  · rw [if_neg h1]; omega
theorem vl_dig (k : Nat) (h : k < 16) : vl (dig k) = k := by
  unfold vl
  rw [dig_nat k h]
  by_cases h1 : k < 10
  · rw [if_pos h1, if_pos (by omega)]; omega
  · rw [if_neg h1, if_neg (by omega)]; omega
theorem dig_vl (c : UInt8) (h : isX c = true) : dig (vl c) = c := by
  refine UInt8.toNat_inj.1 ?_
  rw [dig_nat _ (vl_lt c h)]
  rcases (isX_iff c).1 h with h | h
  · have e : vl c = c.toNat - 48 := by unfold vl; rw [if_pos h.2]
    rw [e, if_pos (by omega)]
    omega
  · have e : vl c = c.toNat - 87 := by unfold vl; rw [if_neg (by omega)]
    rw [e, if_neg (by omega)]
    omega
theorem hxn_length : ∀ (n d : Nat), (hxn n d).length = n
  | 0, d => rfl
  | n + 1, d => by rw [hxn, List.length_append, hxn_length n]; rfl
theorem hxn_is : ∀ (n d : Nat), ∀ c ∈ hxn n d, isX c = true
  | 0, d, c, h => by simp [hxn] at h
  | n + 1, d, c, h => by
    rw [hxn] at h
    rcases List.mem_append.1 h with h | h
    · exact hxn_is n _ c h
    · rw [List.mem_singleton.1 h]; exact dig_is _ (Nat.mod_lt _ (by omega))
theorem vx_hxn : ∀ (n d : Nat), vx 0 (hxn n d) = d % 16 ^ n
  | 0, d => by rw [hxn, vx_nil, Nat.pow_zero, Nat.mod_one]
  | n + 1, d => by
    rw [hxn, vx_snoc, vx_hxn n, vl_dig _ (Nat.mod_lt _ (by omega)), Nat.pow_succ, Nat.mul_comm (16 ^ n) 16, Nat.mod_mul]
    omega
theorem vx_hx (d : Nat) (h : d < 18446744073709551616) : vx 0 (hx d) = d := by
  unfold hx
  rw [vx_hxn, show (16 ^ 16 : Nat) = 18446744073709551616 by decide, Nat.mod_eq_of_lt h]
theorem hxn_vx : ∀ (n : Nat) (l : List UInt8), l.length = n → (∀ c ∈ l, isX c = true) → hxn n (vx 0 l) = l
  | 0, l, h, hx => by rw [List.eq_nil_of_length_eq_zero h]; rfl
  | n + 1, l, h, hx => by
    have hne : l ≠ [] := by intro e; rw [e] at h; simp at h
    have e := List.dropLast_concat_getLast hne
    have hc : isX (l.getLast hne) = true := hx _ (List.getLast_mem hne)
    have hlt := vl_lt _ hc
    rw [← e, vx_snoc, hxn]
    rw [show (16 * vx 0 l.dropLast + vl (l.getLast hne)) / 16 = vx 0 l.dropLast by omega, show (16 * vx 0 l.dropLast + vl (l.getLast hne)) % 16 = vl (l.getLast hne) by omega]
    rw [hxn_vx n _ (by rw [List.length_dropLast]; omega) (fun c h => hx c (List.dropLast_subset l h)), dig_vl _ hc]
theorem vx_bound : ∀ (l : List UInt8) (a : Nat), (∀ c ∈ l, isX c = true) → vx a l < (a + 1) * 16 ^ l.length
  | [], a, _ => by rw [vx_nil, List.length_nil, Nat.pow_zero]; omega
  | c :: l, a, h => by
    have h1 := vx_bound l (16 * a + vl c) (fun x hx => h x (List.mem_cons_of_mem _ hx))
    have h2 := vl_lt c (h c (List.mem_cons_self ..))
    rw [vx_cons, List.length_cons, Nat.pow_succ]
    refine Nat.lt_of_lt_of_le h1 ?_
    rw [show (a + 1) * (16 ^ l.length * 16) = (16 * a + 16) * 16 ^ l.length by grind]
    exact Nat.mul_le_mul_right _ (by omega)
theorem px_hx (d : Nat) (h : d < 18446744073709551616) : px (hx d) = if d < P then .ok d else .error 3 := by
  unfold px
  rw [if_pos ⟨hxn_length 16 d, hxn_is 16 d⟩, vx_hx d h]
theorem px_ok {s : List UInt8} {d : Nat} (h : px s = .ok d) : d < P ∧ hx d = s := by
  unfold px at h
  split at h
  · rename_i hs
    split at h
    · rename_i hv
      injection h with h
      subst h
      exact ⟨hv, hxn_vx 16 s hs.1 hs.2⟩
    · cases h
  · cases h
theorem px_bad {s : List UInt8} {x : Nat} (h : px s = .error x) : x = 2 ∨ x = 3 := by
  unfold px at h
  split at h
  · split at h
    · cases h
    · injection h with h; omega
  · injection h with h; omega
end Dig
end Go.Proofs.Ytlinmhmhgnhmeaa
