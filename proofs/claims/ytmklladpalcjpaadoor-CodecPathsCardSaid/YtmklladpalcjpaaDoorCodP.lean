/-
  What the laws ask of Encode, Decode and At, in plain words; no program is named here.
-/
import Derived.Test.YtmklladpalcjpaaDoorCodR
namespace Go.Proofs.YtmklladpalcjpaaDoor
namespace Cod
set_option linter.unusedVariables false

mutual
theorem enc_up : ∀ (n : Nd) (b c : Nat) (s : List UInt8), enc b n = .ok s → b ≤ c → enc c n = .ok s
  | .mk l t k, b, c, s, h, hc => by
    obtain ⟨⟨a, rfl⟩, hk, ⟨rfl, rfl, rfl⟩ | ⟨rfl, rfl, u, hu, rfl⟩⟩ := enc_ok h
    · rw [enc, if_neg (by simp [bad]), if_neg (by simp; omega), if_pos rfl]
    · have h1 := encL_up k (a + 1 - 1) (c - 1) u hu (by omega)
      rw [enc, if_neg (by simp [bad]), if_neg (by omega), if_neg (by simp), h1]
      rfl
theorem encL_up : ∀ (k : List Nd) (b c : Nat) (s : List UInt8), encL b k = .ok s → b ≤ c → encL c k = .ok s
  | [], b, c, s, h, hc => by rw [encL] at h ⊢; exact h
  | n :: r, b, c, s, h, hc => by
    rw [encL] at h
    obtain ⟨u, v, hu, hv, rfl⟩ := cat_ok h
    rw [encL, enc_up n b c u hu hc, encL_up r b c v hv hc]
    rfl
end
theorem encd_ok {n : Nd} {s : List UInt8} (h : encd n = .ok s) : enc 12 n = .ok s ∧ s.length ≤ 20000 := by
  unfold encd at h
  cases h1 : enc 12 n with
  | error e => rw [h1] at h; cases h
  | ok u =>
    rw [h1] at h
    simp only [] at h
    by_cases h2 : 20000 < u.length
    · rw [if_pos h2] at h; cases h
    · rw [if_neg h2] at h
      simp only [Except.ok.injEq] at h
      subst h
      exact ⟨rfl, by omega⟩
theorem encd_of {n : Nd} {s : List UInt8} (h : enc 12 n = .ok s) (hs : s.length ≤ 20000) : encd n = .ok s := by
  unfold encd
  rw [h]
  exact if_neg (by omega)
theorem decd_ok {s : List UInt8} {n : Nd} (h : decd s = .ok n) : s.length ≤ 20000 ∧ pN 12 s = .ok (n, []) := by
  unfold decd at h
  by_cases h1 : 20000 < s.length
  · rw [if_pos h1] at h; cases h
  · rw [if_neg h1] at h
    cases h2 : pN 12 s with
    | error e => rw [h2] at h; cases h
    | ok p =>
      obtain ⟨x, r⟩ := p
      rw [h2] at h
      simp only [] at h
      by_cases h3 : r.isEmpty = true
      · rw [if_pos h3] at h
        simp only [Except.ok.injEq] at h
        subst h
        rw [List.isEmpty_iff.1 h3]
        exact ⟨by omega, rfl⟩
      · rw [if_neg h3] at h; cases h
theorem dec_enc {n : Nd} {s : List UInt8} (h : encd n = .ok s) : decd s = .ok n := by
  obtain ⟨h1, h2⟩ := encd_ok h
  have h3 := pN_enc n 12 s [] h1 h2
  rw [List.append_nil] at h3
  unfold decd
  rw [if_neg (by omega), h3]
  rfl
theorem enc_dec {n : Nd} {s : List UInt8} (h : decd s = .ok n) : encd n = .ok s := by
  obtain ⟨h1, h2⟩ := decd_ok h
  obtain ⟨u, hu, e⟩ := pN_inv 12 s n [] h2
  rw [List.append_nil] at e
  subst e
  exact encd_of hu h1
theorem dec_cut {n : Nd} {p q : List UInt8} (h : encd n = .ok (p ++ q)) (hq : q ≠ []) : decd p = .error 4 := by
  obtain ⟨h1, h2⟩ := encd_ok h
  have h3 := pN_cut n 12 p q h1 hq h2
  rw [List.length_append] at h2
  unfold decd
  rw [if_neg (by omega), h3]
theorem dec_more {n : Nd} {s m : List UInt8} (h : encd n = .ok s) (hm : m ≠ []) (hl : s.length + m.length ≤ 20000) : decd (s ++ m) = .error 2 := by
  obtain ⟨h1, h2⟩ := encd_ok h
  have h3 := pN_enc n 12 s m h1 h2
  unfold decd
  rw [List.length_append, if_neg (by omega), h3]
  simp only []
  rw [if_neg (by simpa using hm)]
theorem apart {a b : Nd} {s r : List UInt8} (ha : encd a = .ok s) (hb : encd b = .ok (s ++ r)) : a = b ∧ r = [] := by
  obtain ⟨h1, h2⟩ := encd_ok ha
  obtain ⟨h3, h4⟩ := encd_ok hb
  have e1 := pN_enc a 12 s r h1 h2
  have e2 := pN_enc b 12 (s ++ r) [] h3 h4
  rw [List.append_nil, e1] at e2
  simp only [Except.ok.injEq, Prod.mk.injEq] at e2
  exact e2
/-! ### Lists -/
theorem encL_append (b : Nat) : ∀ (k r : List Nd), encL b (k ++ r) = cat (encL b k) (encL b r)
  | [], r => by
    rw [List.nil_append, encL]
    unfold cat
    cases encL b r <;> rfl
  | n :: k, r => by
    rw [List.cons_append, encL, encL, encL_append b k r]
    unfold cat
    cases enc b n with
    | error e => rfl
    | ok s =>
      cases encL b k with
      | error e => rfl
      | ok u =>
        cases encL b r with
        | error e => rfl
        | ok v => exact congrArg Except.ok (List.append_assoc _ _ _).symm
theorem encL_mem {b : Nat} {k : List Nd} {s : List UInt8} (h : encL b k = .ok s) : ∀ i n, k[i]? = some n → ∃ u v x, enc b n = .ok u ∧ encL b (k.take i) = .ok v ∧ encL b (k.take (i + 1)) = .ok (v ++ u) ∧ s = v ++ u ++ x := by
  intro i n hi
  obtain ⟨hlt, e⟩ := List.getElem?_eq_some_iff.1 hi
  have h1 : k = k.take i ++ (n :: k.drop (i + 1)) := by rw [← e, List.getElem_cons_drop, List.take_append_drop]
  rw [h1, encL_append] at h
  obtain ⟨v, y, hv, hy, rfl⟩ := cat_ok h
  rw [encL] at hy
  obtain ⟨u, x, hu, hx, rfl⟩ := cat_ok hy
  refine ⟨u, v, x, hu, hv, ?_, (List.append_assoc _ _ _).symm⟩
  rw [List.take_add_one, hi, encL_append, hv]
  show cat _ (encL b [n]) = _
  rw [encL, encL, hu]
  show cat _ (.ok (u ++ [])) = _
  rw [List.append_nil]
  rfl
theorem list_ok {k : List Nd} {s : List UInt8} (h : encd (.mk true [] k) = .ok s) : ∃ u, encL 11 k = .ok u ∧ s = 40 :: (u ++ [41]) ∧ s.length ≤ 20000 ∧ k.length ≤ 256 := by
  obtain ⟨h1, h2⟩ := encd_ok h
  obtain ⟨_, hk, ⟨h3, _⟩ | ⟨_, _, u, hu, e⟩⟩ := enc_ok h1
  · cases h3
  · exact ⟨u, hu, e, h2, hk⟩
/-- An element of a list that has an encoding has one of its own. -/
theorem list_kid {k : List Nd} {s u : List UInt8} (hu : encL 11 k = .ok u) (hl : u.length ≤ 20000) (i : Nat) (n : Nd) (hi : k[i]? = some n) : ∃ v x, encd n = .ok x ∧ encL 11 (k.take i) = .ok v ∧ encL 11 (k.take (i + 1)) = .ok (v ++ x) := by
  obtain ⟨x, v, y, h1, h2, h3, e⟩ := encL_mem hu i n hi
  rw [e, List.length_append, List.length_append] at hl
  exact ⟨v, x, encd_of (enc_up n 11 12 x h1 (by omega)) (by omega), h2, h3⟩
/-! ### Paths -/
def kid : Nd → Int → Option Nd
  | .mk l t k, i => if l = true ∧ 0 ≤ i then k[i.toNat]? else none
def at_ : Nd → List Int → Option Nd
  | n, [] => some n
  | n, i :: p => match kid n i with
    | none => none
    | some x => at_ x p
theorem at_append : ∀ (p q : List Int) (n : Nd), at_ n (p ++ q) = match at_ n p with
    | none => none
    | some x => at_ x q
  | [], q, n => by rw [List.nil_append, at_]
  | i :: p, q, n => by
    rw [List.cons_append, at_, at_]
    cases kid n i with
    | none => rfl
    | some x => exact at_append p q x
theorem kid_occurs {n x : Nd} {b : Nat} {i : Int} {s : List UInt8} (h : enc b n = .ok s) (hk : kid n i = some x) : ∃ u v y, enc (b - 1) x = .ok u ∧ s = v ++ u ++ y := by
  obtain ⟨l, t, k⟩ := n
  obtain ⟨⟨a, rfl⟩, _, ⟨rfl, rfl, rfl⟩ | ⟨rfl, rfl, w, hw, rfl⟩⟩ := enc_ok h
  · simp [kid] at hk
  · rw [kid] at hk
    split at hk
    · obtain ⟨u, v, y, h1, _, _, e⟩ := encL_mem hw _ _ hk
      exact ⟨u, 40 :: v, y ++ [41], h1, by rw [e]; simp⟩
    · cases hk
theorem at_occurs : ∀ (p : List Int) (n x : Nd) (b : Nat) (s : List UInt8), enc b n = .ok s → at_ n p = some x → ∃ c u v y, c ≤ b ∧ enc c x = .ok u ∧ s = v ++ u ++ y
  | [], n, x, b, s, h, hp => by
    rw [at_] at hp
    simp only [Option.some.injEq] at hp
    subst hp
    exact ⟨b, s, [], [], Nat.le_refl _, h, by simp⟩
  | i :: p, n, x, b, s, h, hp => by
    rw [at_] at hp
    cases hk : kid n i with
    | none => rw [hk] at hp; cases hp
    | some z =>
      rw [hk] at hp
      obtain ⟨u, v, y, h1, e⟩ := kid_occurs h hk
      obtain ⟨c, u', v', y', h2, h3, e'⟩ := at_occurs p z x (b - 1) u h1 hp
      exact ⟨c, u', v ++ v', y' ++ y, by omega, h3, by rw [e, e']; simp⟩
theorem path_occurs {p : List Int} {n x : Nd} {s : List UInt8} (h : encd n = .ok s) (hp : at_ n p = some x) : ∃ u v y, encd x = .ok u ∧ s = v ++ u ++ y := by
  obtain ⟨h1, h2⟩ := encd_ok h
  obtain ⟨c, u, v, y, hc, h3, e⟩ := at_occurs p n x 12 s h1 hp
  refine ⟨u, v, y, encd_of (enc_up x c 12 u h3 hc) ?_, e⟩
  rw [e, List.length_append, List.length_append] at h2
  omega
/-! ### The number of nodes and bytes; the length of an encoding -/
mutual
def size : Nd → Nat
  | .mk l t k => 1 + t.length + sizeL k
def sizeL : List Nd → Nat
  | [] => 0
  | n :: r => size n + sizeL r
end
theorem txt_le (t : List UInt8) (h : t.length < 1000000) : (txt t).length ≤ t.length + 7 := by
  have := dec_len t.length 6 (by omega) (by omega)
  unfold txt
  rw [List.length_append, List.length_cons]
  omega
mutual
theorem enc_len : ∀ (n : Nd) (b : Nat) (s : List UInt8), enc b n = .ok s → size n < 1000000 → s.length ≤ 7 * size n
  | .mk l t k, b, s, h, hz => by
    rw [size] at hz ⊢
    obtain ⟨⟨a, rfl⟩, hk, ⟨rfl, rfl, rfl⟩ | ⟨rfl, rfl, u, hu, rfl⟩⟩ := enc_ok h
    · have := txt_le t (by omega)
      omega
    · have := encL_len k (a + 1 - 1) u hu (by omega)
      rw [List.length_cons, List.length_append, List.length_singleton]
      omega
theorem encL_len : ∀ (k : List Nd) (b : Nat) (s : List UInt8), encL b k = .ok s → sizeL k < 1000000 → s.length ≤ 7 * sizeL k
  | [], b, s, h, hz => by
    rw [encL] at h
    simp only [Except.ok.injEq] at h
    subst h
    simp
  | n :: r, b, s, h, hz => by
    rw [sizeL] at hz ⊢
    rw [encL] at h
    obtain ⟨u, v, hu, hv, rfl⟩ := cat_ok h
    have h1 := enc_len n b u hu (by omega)
    have h2 := encL_len r b v hv (by omega)
    rw [List.length_append]
    omega
end
theorem txt_ge (t : List UInt8) : 1 + t.length ≤ (txt t).length := by
  unfold txt
  rw [List.length_append, List.length_cons]
  omega
mutual
theorem size_le : ∀ (n : Nd) (b : Nat) (s : List UInt8), enc b n = .ok s → size n ≤ s.length
  | .mk l t k, b, s, h => by
    rw [size]
    obtain ⟨⟨a, rfl⟩, hk, ⟨rfl, rfl, rfl⟩ | ⟨rfl, rfl, u, hu, rfl⟩⟩ := enc_ok h
    · have := txt_ge t
      rw [sizeL]
      omega
    · have := sizeL_le k (a + 1 - 1) u hu
      rw [List.length_cons, List.length_append, List.length_singleton, List.length_nil]
      omega
theorem sizeL_le : ∀ (k : List Nd) (b : Nat) (s : List UInt8), encL b k = .ok s → sizeL k ≤ s.length
  | [], b, s, h => by rw [sizeL]; omega
  | n :: r, b, s, h => by
    rw [encL] at h
    obtain ⟨u, v, hu, hv, rfl⟩ := cat_ok h
    have h1 := size_le n b u hu
    have h2 := sizeL_le r b v hv
    rw [sizeL, List.length_append]
    omega
end
theorem sizeL_mem : ∀ (k : List Nd) (i : Nat) (n : Nd), k[i]? = some n → size n ≤ sizeL k
  | [], i, n, h => by simp at h
  | x :: r, 0, n, h => by
    simp only [List.getElem?_cons_zero, Option.some.injEq] at h
    subst h
    rw [sizeL]
    omega
  | x :: r, i + 1, n, h => by
    rw [List.getElem?_cons_succ] at h
    have := sizeL_mem r i n h
    rw [sizeL]
    omega
theorem at_size : ∀ (p : List Int) (n x : Nd), at_ n p = some x → size x ≤ size n
  | [], n, x, h => by
    rw [at_] at h
    simp only [Option.some.injEq] at h
    subst h
    exact Nat.le_refl _
  | i :: p, .mk l t k, x, h => by
    rw [at_] at h
    cases hk : kid (.mk l t k) i with
    | none => rw [hk] at h; cases h
    | some z =>
      rw [hk] at h
      have h1 := at_size p z x h
      rw [kid] at hk
      split at hk
      · have h2 := sizeL_mem k _ z hk
        rw [size]
        omega
      · cases hk
mutual
theorem enc_bad : ∀ (n : Nd) (b x : Nat), enc b n = .error x → x = 1 ∨ x = 5
  | .mk l t k, b, x, h => by
    rw [enc] at h
    split at h
    · cases h; omega
    · split at h
      · cases h; omega
      · split at h
        · cases h
        · cases h1 : encL (b - 1) k with
          | error e => rw [h1] at h; cases h; exact encL_bad k (b - 1) _ h1
          | ok u => rw [h1] at h; cases h
theorem encL_bad : ∀ (k : List Nd) (b x : Nat), encL b k = .error x → x = 1 ∨ x = 5
  | [], b, x, h => by rw [encL] at h; cases h
  | n :: r, b, x, h => by
    rw [encL] at h
    cases h1 : enc b n with
    | error e => rw [h1] at h; cases h; exact enc_bad n b _ h1
    | ok u =>
      rw [h1] at h
      cases h2 : encL b r with
      | error e => rw [h2] at h; cases h; exact encL_bad r b _ h2
      | ok v => rw [h2] at h; cases h
end
theorem encd_bad {n : Nd} {x : Nat} (h : encd n = .error x) : x = 1 ∨ x = 5 := by
  unfold encd at h
  cases h1 : enc 12 n with
  | error e => rw [h1] at h; cases h; exact enc_bad n 12 _ h1
  | ok s =>
    rw [h1] at h
    simp only [] at h
    split at h
    · cases h; omega
    · cases h
end Cod
end Go.Proofs.YtmklladpalcjpaaDoor
