/-
  Trees and their encoding in plain words; no program is named here. 'enc b n': the encoding of n, or the error, where b levels are left; 'pN b s': the node at the beginning of s and what is behind it, or the error; what is encoded is read back, and the other way round; a proper prefix of an encoding is cut off.
-/
import Derived.Test.YtmklladpalcjpaaDoorCodD
namespace Go.Proofs.YtmklladpalcjpaaDoor
namespace Cod
set_option linter.unusedVariables false

inductive Nd where
  | mk (l : Bool) (t : List UInt8) (k : List Nd)
def bad (l : Bool) (t : List UInt8) (k : List Nd) : Bool := l && !t.isEmpty || !l && !k.isEmpty
def cat (a : Except Nat (List UInt8)) (b : Except Nat (List UInt8)) : Except Nat (List UInt8) :=
  match a with
  | .error e => .error e
  | .ok s => match b with
    | .error e => .error e
    | .ok u => .ok (s ++ u)
def wrap (a : Except Nat (List UInt8)) : Except Nat (List UInt8) :=
  match a with
  | .error e => .error e
  | .ok s => .ok (40 :: (s ++ [41]))
def txt (t : List UInt8) : List UInt8 := Lib.decDigits t.length ++ 58 :: t
mutual
def enc : Nat → Nd → Except Nat (List UInt8)
  | b, .mk l t k =>
    if bad l t k = true then .error 1
    else if b = 0 ∨ 256 < k.length then .error 5
    else if l = false then .ok (txt t)
    else wrap (encL (b - 1) k)
def encL : Nat → List Nd → Except Nat (List UInt8)
  | b, [] => .ok []
  | b, n :: r => cat (enc b n) (encL b r)
end
/-- Digits of a length: n so far; q: 0 none, 1 a single 0, 2 others. -/
def pD : Nat → Nat → List UInt8 → Except Nat (Nat × List UInt8)
  | n, q, [] => .error 4
  | n, q, c :: r =>
    if isD c = true then
      if q = 1 then .error 2
      else if 20000 < 10 * n + (c.toNat - 48) then .error 5
      else pD (10 * n + (c.toNat - 48)) (if q = 0 ∧ c = 48 then 1 else 2) r
    else if c = 58 then .ok (n, r) else .error 2
def pT (s : List UInt8) : Except Nat (Nd × List UInt8) :=
  match pD 0 0 s with
  | .error e => .error e
  | .ok (n, r) => if r.length < n then .error 4 else .ok (.mk false (r.take n) [], r.drop n)
def begins (c : UInt8) : Bool := c == 40 || isD c
def pK (child : List UInt8 → Except Nat (Nd × List UInt8)) : Nat → List UInt8 → Except Nat (List Nd × List UInt8)
  | m, [] => .error 4
  | m, c :: r =>
    if c = 41 then .ok ([], r)
    else match m with
      | 0 => if begins c = true then .error 5 else .error 2
      | m + 1 => match child (c :: r) with
        | .error e => .error e
        | .ok (x, r') => match pK child m r' with
          | .error e => .error e
          | .ok (l, r'') => .ok (x :: l, r'')
def pN : Nat → List UInt8 → Except Nat (Nd × List UInt8)
  | b, [] => .error 4
  | b, c :: r =>
    if begins c = false then .error 2
    else match b with
      | 0 => .error 5
      | b + 1 => if c = 40 then (match pK (pN b) 256 r with
          | .error e => .error e
          | .ok (l, r') => .ok (.mk true [] l, r'))
        else pT (c :: r)
/-- Encode. -/
def encd (n : Nd) : Except Nat (List UInt8) :=
  match enc 12 n with
  | .error e => .error e
  | .ok s => if 20000 < s.length then .error 5 else .ok s
/-- Decode. -/
def decd (s : List UInt8) : Except Nat Nd :=
  if 20000 < s.length then .error 5
  else match pN 12 s with
    | .error e => .error e
    | .ok (n, r) => if r.isEmpty = true then .ok n else .error 2

/-! ### Lengths -/
theorem pD_ok : ∀ (l : List UInt8) (n q : Nat) (r : List UInt8), (∀ c ∈ l, isD c = true) → val n l ≤ 20000 → (q = 1 → l = []) → (q = 0 → l[0]? = some 48 → l = [48]) → pD n q (l ++ 58 :: r) = .ok (val n l, r)
  | [], n, q, r, _, _, _, _ => by
    rw [List.nil_append, pD, if_neg (by decide), if_pos rfl, val_nil]
  | c :: l, n, q, r, hd, hv, h1, h0 => by
    have hge := val_ge l (10 * n + (c.toNat - 48))
    rw [val_cons] at hv ⊢
    rw [List.cons_append, pD, if_pos (hd c (by simp)), if_neg (fun h => by cases h1 h), if_neg (by omega)]
    refine pD_ok l _ _ r (fun x hx => hd x (by simp [hx])) hv (fun h => ?_) (fun h => ?_)
    · by_cases hc : q = 0 ∧ c = 48
      · obtain ⟨hq, rfl⟩ := hc
        have := h0 hq rfl
        simpa using this
      · rw [if_neg hc] at h; omega
    · by_cases hc : q = 0 ∧ c = 48
      · rw [if_pos hc] at h; omega
      · rw [if_neg hc] at h; omega
theorem pD_dec (n : Nat) (h : n ≤ 20000) (r : List UInt8) : pD 0 0 (Lib.decDigits n ++ 58 :: r) = .ok (n, r) := by
  have hn := dec_num n
  have := pD_ok (Lib.decDigits n) 0 0 r hn.2.1 (by rw [val_dec]; exact h) (fun h => by omega) (fun _ h => hn.2.2 h)
  rwa [val_dec] at this
/-- Digits that end where the string ends. -/
theorem pD_cut : ∀ (l : List UInt8) (n q : Nat), (∀ c ∈ l, isD c = true) → val n l ≤ 20000 → (q = 1 → l = []) → (q = 0 → l[0]? = some 48 → l = [48]) → pD n q l = .error 4
  | [], n, q, _, _, _, _ => by rw [pD]
  | c :: l, n, q, hd, hv, h1, h0 => by
    have hge := val_ge l (10 * n + (c.toNat - 48))
    rw [val_cons] at hv
    rw [pD, if_pos (hd c (by simp)), if_neg (fun h => by cases h1 h), if_neg (by omega)]
    refine pD_cut l _ _ (fun x hx => hd x (by simp [hx])) hv (fun h => ?_) (fun h => ?_)
    · by_cases hc : q = 0 ∧ c = 48
      · obtain ⟨hq, rfl⟩ := hc
        have := h0 hq rfl
        simpa using this
      · rw [if_neg hc] at h; omega
    · by_cases hc : q = 0 ∧ c = 48
      · rw [if_pos hc] at h; omega
      · rw [if_neg hc] at h; omega
/-- What was read as a length is digits and a colon. -/
theorem pD_inv : ∀ (s : List UInt8) (n q m : Nat) (r : List UInt8), pD n q s = .ok (m, r) → ∃ l, s = l ++ 58 :: r ∧ (∀ c ∈ l, isD c = true) ∧ m = val n l ∧ (q = 1 → l = []) ∧ (q = 0 → l[0]? = some 48 → l = [48]) ∧ m ≤ max n 20000
  | [], n, q, m, r, h => by rw [pD] at h; cases h
  | c :: s, n, q, m, r, h => by
    rw [pD] at h
    by_cases hd : isD c = true
    · rw [if_pos hd] at h
      by_cases hq : q = 1
      · rw [if_pos hq] at h; cases h
      · rw [if_neg hq] at h
        by_cases hb : 20000 < 10 * n + (c.toNat - 48)
        · rw [if_pos hb] at h; cases h
        · rw [if_neg hb] at h
          obtain ⟨l, e1, e2, e3, e4, e5, e6⟩ := pD_inv s _ _ m r h
          refine ⟨c :: l, by rw [e1]; rfl, fun x hx => ?_, by rw [e3, val_cons], fun h => absurd h hq, fun h0 hc => ?_, by omega⟩
          · rcases List.mem_cons.1 hx with rfl | hx
            · exact hd
            · exact e2 x hx
          · have hc48 : c = 48 := by simpa using hc
            rw [e4 (by rw [if_pos ⟨h0, hc48⟩]), hc48]
    · rw [if_neg hd] at h
      by_cases hc : c = 58
      · rw [if_pos hc] at h
        simp only [Except.ok.injEq, Prod.mk.injEq] at h
        obtain ⟨rfl, rfl⟩ := h
        exact ⟨[], by rw [hc]; rfl, by simp, rfl, fun _ => rfl, fun _ h => by simp at h, by omega⟩
      · rw [if_neg hc] at h; cases h
theorem pT_ok (t m : List UInt8) (h : t.length ≤ 20000) : pT (txt t ++ m) = .ok (.mk false t [], m) := by
  unfold pT txt
  rw [List.append_assoc, List.cons_append, pD_dec _ h]
  simp only []
  rw [if_neg (by simp), List.take_left', List.drop_left'] <;> rfl
theorem pT_inv (c : UInt8) (s r : List UInt8) (n : Nd) (hc : isD c = true) (h : pT (c :: s) = .ok (n, r)) : ∃ t, n = .mk false t [] ∧ c :: s = txt t ++ r ∧ t.length ≤ 20000 := by
  unfold pT at h
  cases hp : pD 0 0 (c :: s) with
  | error e => rw [hp] at h; cases h
  | ok p =>
    obtain ⟨m, u⟩ := p
    rw [hp] at h
    simp only [] at h
    by_cases hl : u.length < m
    · rw [if_pos hl] at h; cases h
    · rw [if_neg hl] at h
      simp only [Except.ok.injEq, Prod.mk.injEq] at h
      obtain ⟨rfl, rfl⟩ := h
      obtain ⟨l, e1, e2, e3, e4, e5, e6⟩ := pD_inv _ _ _ _ _ hp
      have hne : l ≠ [] := by
        rintro rfl
        rw [List.nil_append] at e1
        injection e1 with e1 _
        rw [e1] at hc
        exact absurd hc (by decide)
      have hlen : (u.take m).length = m := by rw [List.length_take]; omega
      refine ⟨u.take m, rfl, ?_, by rw [hlen]; omega⟩
      unfold txt
      rw [hlen, e3, dec_val l ⟨hne, e2, e5 rfl⟩, e1, List.append_assoc, List.cons_append, ← e3, List.take_append_drop]
end Cod
end Go.Proofs.YtmklladpalcjpaaDoor
