/-
  What Encode's three passes compute, in plain words: the first error, the length, the bytes. No program is named here.
-/
import Derived.Test.YtmklladpalcjpaaDoorCodR
import Derived.Test.YtmklladpalcjpaaDoorCodP
namespace Go.Proofs.YtmklladpalcjpaaDoor
namespace Cod
set_option linter.unusedVariables false

mutual
/-- The bytes that are written, whether or not the tree is valid. -/
def wrN : Nd → List UInt8
  | .mk l t k => if l = false then txt t else 40 :: (wrL k ++ [41])
def wrL : List Nd → List UInt8
  | [] => []
  | n :: r => wrN n ++ wrL r
end
mutual
theorem enc_wr : ∀ (n : Nd) (b : Nat) (s : List UInt8), enc b n = .ok s → s = wrN n
  | .mk l t k, b, s, h => by
    rw [enc] at h
    split at h
    · cases h
    · split at h
      · cases h
      · rw [wrN]
        split at h
        · rename_i hl
          rw [if_pos hl]
          cases h
          rfl
        · rename_i hl
          rw [if_neg hl]
          obtain ⟨u, hu, rfl⟩ := wrap_ok h
          rw [encL_wr k _ u hu]
theorem encL_wr : ∀ (k : List Nd) (b : Nat) (s : List UInt8), encL b k = .ok s → s = wrL k
  | [], b, s, h => by
    rw [encL] at h
    cases h
    rw [wrL]
  | n :: r, b, s, h => by
    rw [encL] at h
    obtain ⟨u, v, hu, hv, rfl⟩ := cat_ok h
    rw [wrL, enc_wr n b u hu, encL_wr r b v hv]
end
theorem wrL_append : ∀ (k r : List Nd), wrL (k ++ r) = wrL k ++ wrL r
  | [], r => by rw [List.nil_append, wrL, List.nil_append]
  | n :: k, r => by rw [List.cons_append, wrL, wrL, wrL_append k r, List.append_assoc]
theorem wrL_next (k : List Nd) (i : Nat) (n : Nd) (h : k[i]? = some n) : wrL (k.take (i + 1)) = wrL (k.take i) ++ wrN n := by
  rw [List.take_add_one, h, wrL_append]
  show _ ++ wrL [n] = _
  rw [wrL, wrL, List.append_nil]
theorem wrL_part (k : List Nd) (i : Nat) : (wrL (k.take i)).length ≤ (wrL k).length := by
  have h := congrArg List.length (wrL_append (k.take i) (k.drop i))
  rw [List.take_append_drop, List.length_append] at h
  omega
/-- The error, or 0. -/
def errOf (R : Except Nat (List UInt8)) : Nat :=
  match R with
  | .ok _ => 0
  | .error e => e
theorem errOf_zero {b : Nat} {n : Nd} (h : errOf (enc b n) = 0) : enc b n = .ok (wrN n) := by
  cases he : enc b n with
  | ok s => rw [← enc_wr n b s he]
  | error e =>
    rw [he] at h
    have h : e = 0 := h
    rcases enc_bad n b e he with h1 | h1 <;> omega
theorem errOf_not {b : Nat} {n : Nd} (h : ¬ errOf (enc b n) = 0) : enc b n = .error (errOf (enc b n)) := by
  cases he : enc b n with
  | ok s => rw [he] at h; exact absurd rfl h
  | error e => rfl
/-- Between the rounds of check: T is what the whole list answers. -/
def ChA (T b : Nat) (k : List Nd) (i : Nat) : Prop := T = errOf (encL b (k.drop i))
theorem ChA.start (b : Nat) (k : List Nd) : ChA (errOf (encL b k)) b k 0 := rfl
theorem ChA.done {T b i : Nat} {k : List Nd} (h : ChA T b k i) (hi : k.length ≤ i) : T = 0 := by
  unfold ChA at h
  rw [h, List.drop_eq_nil_of_le hi, encL]
  rfl
theorem ChA.step {T b i : Nat} {k : List Nd} {n : Nd} (h : ChA T b k i) (hn : k[i]? = some n) (h0 : errOf (enc b n) = 0) : ChA T b k (i + 1) := by
  unfold ChA at h ⊢
  obtain ⟨hi, hn⟩ := List.getElem?_eq_some_iff.1 hn
  rw [h, List.drop_eq_getElem_cons hi, hn, encL, errOf_zero h0]
  cases encL b (k.drop (i + 1)) with
  | ok s => rfl
  | error e => rfl
theorem ChA.bad {T b i : Nat} {k : List Nd} {n : Nd} (h : ChA T b k i) (hn : k[i]? = some n) (h0 : ¬ errOf (enc b n) = 0) : T = errOf (enc b n) := by
  unfold ChA at h
  obtain ⟨hi, hn⟩ := List.getElem?_eq_some_iff.1 hn
  rw [h, List.drop_eq_getElem_cons hi, hn, encL, errOf_not h0]
  rfl
theorem err_bad {b : Nat} {l : Bool} {t : List UInt8} {k : List Nd} (h : bad l t k = true) : errOf (enc b (.mk l t k)) = 1 := by
  rw [enc, if_pos h]
  rfl
theorem err_long {b : Nat} {l : Bool} {t : List UInt8} {k : List Nd} (h : ¬ bad l t k = true) (h2 : b = 0 ∨ 256 < k.length) : errOf (enc b (.mk l t k)) = 5 := by
  rw [enc, if_neg h, if_pos h2]
  rfl
theorem err_kids {b : Nat} {l : Bool} {t : List UInt8} {k : List Nd} (h : ¬ bad l t k = true) (h2 : ¬ (b = 0 ∨ 256 < k.length)) : errOf (enc b (.mk l t k)) = errOf (encL (b - 1) k) := by
  rw [enc, if_neg h, if_neg h2]
  cases l with
  | false =>
    have hk : k = [] := by
      cases k with
      | nil => rfl
      | cons n r => exact absurd rfl h
    subst hk
    rw [if_pos rfl, encL]
    rfl
  | true =>
    rw [if_neg (by decide)]
    cases encL (b - 1) k with
    | ok s => rfl
    | error e => rfl
/-- Encode, by its passes. -/
theorem encd_err {n : Nd} (h : ¬ errOf (enc 12 n) = 0) : encd n = .error (errOf (enc 12 n)) := by
  unfold encd
  rw [errOf_not h]
  rfl
theorem encd_long {n : Nd} (h : errOf (enc 12 n) = 0) (h2 : 20000 < (wrN n).length) : encd n = .error 5 := by
  unfold encd
  rw [errOf_zero h]
  exact if_pos h2
theorem encd_yes {n : Nd} (h : errOf (enc 12 n) = 0) (h2 : ¬ 20000 < (wrN n).length) : encd n = .ok (wrN n) := by
  unfold encd
  rw [errOf_zero h]
  exact if_neg h2
/-- Between the rounds of size and of write. -/
def WrA (k : List Nd) (i : Nat) (L : List UInt8) : Prop := L = wrL (k.take i)
theorem wrN_text (t : List UInt8) (k : List Nd) : wrN (.mk false t k) = Lib.decDigits t.length ++ 58 :: t := by
  rw [wrN, if_pos rfl]
  rfl
theorem wrN_list (t : List UInt8) (k : List Nd) : wrN (.mk true t k) = 40 :: (wrL k ++ [41]) := by
  rw [wrN, if_neg (by decide)]
mutual
theorem wrN_size : ∀ (n : Nd), size n ≤ 1000000 → (wrN n).length ≤ 9 * size n
  | .mk l t k, h => by
    rw [size] at h
    rw [size]
    cases l with
    | false =>
      rw [wrN_text]
      have := txt_le t
      unfold txt at this
      have h1 := this
      by_cases ht : t.length < 1000000
      · have := h1 ht
        omega
      · omega
    | true =>
      rw [wrN_list]
      have := wrL_size k (by omega)
      simp only [List.length_cons, List.length_append, List.length_nil]
      omega
theorem wrL_size : ∀ (k : List Nd), sizeL k ≤ 1000000 → (wrL k).length ≤ 9 * sizeL k
  | [], h => by rw [wrL]; simp
  | n :: r, h => by
    rw [sizeL] at h
    rw [wrL, sizeL, List.length_append]
    have h1 := wrN_size n (by omega)
    have h2 := wrL_size r (by omega)
    omega
end
end Cod
end Go.Proofs.YtmklladpalcjpaaDoor
