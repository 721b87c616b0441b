/-
  Digests in plain words: what a text's digest is, the digest of a concatenation, chains, a single byte replaced. No program is named here.
-/
import Derived.Lib.ItoaNum
namespace Go.Proofs.Ytlinmhmhgnhmeaa
namespace Dig
set_option linter.unusedVariables false

def P : Nat := 2305843009213693951
def B : Nat := 1099511628211
theorem P_eq : P = 2305843009213693951 := rfl
theorem B_eq : B = 1099511628211 := rfl
theorem P_pos : 0 < P := by rw [P_eq]; omega
theorem B_lt : B < P := by rw [P_eq, B_eq]; omega
/-- One byte more. -/
def st (d : Nat) (c : UInt8) : Nat := (d * B + c.toNat + 1) % P
def dgf (d : Nat) (s : List UInt8) : Nat := s.foldl st d
/-- The digest of a text. -/
def dg (s : List UInt8) : Nat := dgf 0 s
def jn (a n b : Nat) : Nat := (a * B ^ n + b) % P
/-- A chain that is continued. -/
def ch (prev : Nat) (s : List UInt8) : Nat := jn prev (s.length + 1) (dg (10 :: s))
/-- The digests of the chain of a list. -/
def lk : Nat → List (List UInt8) → List Nat
  | last, [] => []
  | last, s :: r => ch last s :: lk (ch last s) r
/-! ### Numbers modulo another one -/
def Cg (m x y : Nat) : Prop := x % m = y % m
theorem Cg.refl (m x : Nat) : Cg m x x := rfl
theorem Cg.symm {m x y : Nat} (h : Cg m x y) : Cg m y x := Eq.symm h
theorem Cg.trans {m x y z : Nat} (h : Cg m x y) (k : Cg m y z) : Cg m x z := Eq.trans h k
theorem Cg.mod (m x : Nat) : Cg m (x % m) x := Nat.mod_mod _ _
theorem Cg.add {m x y a b : Nat} (h : Cg m x y) (k : Cg m a b) : Cg m (x + a) (y + b) := by
  unfold Cg at *
  rw [Nat.add_mod, h, k, ← Nat.add_mod]
theorem Cg.mul {m x y a b : Nat} (h : Cg m x y) (k : Cg m a b) : Cg m (x * a) (y * b) := by
  unfold Cg at *
  rw [Nat.mul_mod, h, k, ← Nat.mul_mod]
theorem Cg.of_eq {m x y : Nat} (h : x = y) : Cg m x y := by rw [h]; exact Cg.refl m y
theorem Cg.cancel_add {m x y e : Nat} (h : Cg m (x + e) (y + e)) : Cg m x y := by
  have h2 := h.add (Cg.refl m (e * (m - 1)))
  rcases Nat.eq_zero_or_pos m with h0 | h0
  · subst h0
    unfold Cg at h ⊢
    simp at h ⊢
    exact h
  · have e1 : ∀ z : Nat, z + e + e * (m - 1) = z + m * e := fun z => by
      obtain ⟨k, rfl⟩ : ∃ k, m = k + 1 := ⟨m - 1, by omega⟩
      rw [Nat.add_sub_cancel, Nat.succ_mul, Nat.mul_comm k e]
      omega
    rw [e1, e1] at h2
    unfold Cg at h2 ⊢
    rw [Nat.add_mul_mod_self_left, Nat.add_mul_mod_self_left] at h2
    exact h2
theorem Cg.eq {m x y : Nat} (h : Cg m x y) (hx : x < m) (hy : y < m) : x = y := by
  unfold Cg at h
  rwa [Nat.mod_eq_of_lt hx, Nat.mod_eq_of_lt hy] at h
/-- B has an inverse. -/
def J : Nat := 1886636988539514303
theorem B_inv : Cg P (B * J) 1 := by unfold Cg; rw [P_eq, B_eq]; decide +kernel
theorem cancel_B {x y : Nat} (h : Cg P (x * B) (y * B)) : Cg P x y := by
  have h2 := h.mul (Cg.refl P J)
  rw [Nat.mul_assoc, Nat.mul_assoc] at h2
  have hx := (Cg.refl P x).mul B_inv
  have hy := (Cg.refl P y).mul B_inv
  rw [Nat.mul_one] at hx hy
  exact (hx.symm.trans h2).trans hy
theorem cancel_pow : ∀ (n : Nat) {x y : Nat}, Cg P (x * B ^ n) (y * B ^ n) → Cg P x y
  | 0, x, y, h => by rwa [Nat.pow_zero, Nat.mul_one, Nat.mul_one] at h
  | n + 1, x, y, h => by
    rw [Nat.pow_succ, ← Nat.mul_assoc, ← Nat.mul_assoc] at h
    exact cancel_pow n (cancel_B h)
/-! ### Digests -/
theorem jn_lt (a n b : Nat) : jn a n b < P := Nat.mod_lt _ P_pos
theorem st_lt (d : Nat) (c : UInt8) : st d c < P := Nat.mod_lt _ P_pos
theorem dgf_nil (d : Nat) : dgf d [] = d := rfl
theorem dgf_cons (d : Nat) (c : UInt8) (s : List UInt8) : dgf d (c :: s) = dgf (st d c) s := rfl
theorem dgf_append (d : Nat) (s t : List UInt8) : dgf d (s ++ t) = dgf (dgf d s) t := by unfold dgf; rw [List.foldl_append]
theorem dgf_snoc (d : Nat) (s : List UInt8) (c : UInt8) : dgf d (s ++ [c]) = st (dgf d s) c := by rw [dgf_append, dgf_cons, dgf_nil]
theorem dgf_lt : ∀ (s : List UInt8) (d : Nat), d < P → dgf d s < P
  | [], d, h => h
  | c :: s, d, h => dgf_lt s _ (st_lt d c)
theorem dg_lt (s : List UInt8) : dg s < P := dgf_lt s 0 P_pos
theorem Cg.jn {a b x y : Nat} (n : Nat) (h : Cg P a b) (k : Cg P x y) : jn a n x = jn b n y := (h.mul (Cg.refl P (B ^ n))).add k
theorem jn_cg (a n b : Nat) : Cg P (jn a n b) (a * B ^ n + b) := Cg.mod P _
theorem st_cg (d : Nat) (c : UInt8) : Cg P (st d c) (d * B + c.toNat + 1) := Cg.mod P _
theorem dgf_jn : ∀ (s : List UInt8) (d : Nat), Cg P (dgf d s) (d * B ^ s.length + dg s)
  | [], d => by
    rw [dgf_nil, List.length_nil, Nat.pow_zero, Nat.mul_one]
    exact Cg.of_eq rfl
  | c :: s, d => by
    have h1 := dgf_jn s (st d c)
    have h2 := dgf_jn s (st 0 c)
    rw [dgf_cons, List.length_cons]
    have h3 : Cg P (dg (c :: s)) ((0 * B + c.toNat + 1) * B ^ s.length + dg s) := h2.trans (((st_cg 0 c).mul (Cg.refl P _)).add (Cg.refl P _))
    have h4 : Cg P (dgf (st d c) s) ((d * B + c.toNat + 1) * B ^ s.length + dg s) := h1.trans (((st_cg d c).mul (Cg.refl P _)).add (Cg.refl P _))
    refine h4.trans (Cg.trans ?_ ((Cg.refl P (d * B ^ (s.length + 1))).add h3).symm)
    refine Cg.of_eq ?_
    rw [Nat.pow_succ]
    generalize B ^ s.length = X
    generalize dg s = D
    grind
/-- The digest of a concatenation. -/
theorem dg_append (s t : List UInt8) : dg (s ++ t) = jn (dg s) t.length (dg t) := by
  have h : Cg P (dg (s ++ t)) (jn (dg s) t.length (dg t)) := by
    unfold dg
    rw [dgf_append]
    exact (dgf_jn t _).trans (jn_cg _ _ _).symm
  exact h.eq (dg_lt _) (jn_lt _ _ _)
theorem jn_group (a b c n m : Nat) : jn (jn a n b) m c = jn a (n + m) (jn b m c) := by
  refine Cg.eq ?_ (jn_lt _ _ _) (jn_lt _ _ _)
  refine (jn_cg _ _ _).trans (Cg.trans ?_ (jn_cg _ _ _).symm)
  refine (((jn_cg a n b).mul (Cg.refl P (B ^ m))).add (Cg.refl P c)).trans (Cg.trans ?_ ((Cg.refl P (a * B ^ (n + m))).add (jn_cg b m c)).symm)
  refine Cg.of_eq ?_
  rw [Nat.pow_add]
  generalize B ^ n = X
  generalize B ^ m = Y
  grind
theorem jn_comm (a b : Nat) : jn a 0 b = jn b 0 a := by unfold jn; rw [Nat.pow_zero, Nat.mul_one, Nat.mul_one, Nat.add_comm]
theorem jn_mod (a n b : Nat) : jn (a % P) n (b % P) = jn a n b := (Cg.mod P a).jn n (Cg.mod P b)
theorem jn_mod1 (a n b : Nat) : jn (a % P) n b = jn a n b := (Cg.mod P a).jn n (Cg.refl P b)
theorem jn_self (d : Nat) (h : d < P) : jn 0 1 d = d := by unfold jn; rw [Nat.zero_mul, Nat.zero_add, Nat.mod_eq_of_lt h]
theorem ch_lt (a : Nat) (s : List UInt8) : ch a s < P := jn_lt _ _ _
theorem ch_mod (a : Nat) (s : List UInt8) : ch (a % P) s = ch a s := jn_mod1 _ _ _
/-- A chain's digest is that of its texts, each behind a line end. -/
theorem ch_dg (u s : List UInt8) : ch (dg u) s = dg (u ++ 10 :: s) := by rw [dg_append]; rfl
theorem ch_dg2 (u s : List UInt8) : ch (dg u) s = dg (u ++ [10] ++ s) := by rw [ch_dg, List.append_assoc]; rfl
/-- A single byte replaced. -/
theorem dg_byte (p q : List UInt8) (c d : UInt8) (h : dg (p ++ c :: q) = dg (p ++ d :: q)) : c = d := by
  unfold dg at h
  rw [dgf_append, dgf_append, dgf_cons, dgf_cons] at h
  have h1 := dgf_jn q (st (dgf 0 p) c)
  have h2 := dgf_jn q (st (dgf 0 p) d)
  rw [h] at h1
  have h3 := cancel_pow q.length (h1.symm.trans h2).cancel_add
  have h4 := ((st_cg _ c).symm.trans h3).trans (st_cg _ d)
  have h5 : Cg P (c.toNat + (dgf 0 p * B + 1)) (d.toNat + (dgf 0 p * B + 1)) := by
    rw [show c.toNat + (dgf 0 p * B + 1) = dgf 0 p * B + c.toNat + 1 by omega, show d.toNat + (dgf 0 p * B + 1) = dgf 0 p * B + d.toNat + 1 by omega]
    exact h4
  have hc := c.toNat_lt
  have hd := d.toNat_lt
  exact UInt8.toNat_inj.1 (h5.cancel_add.eq (by rw [P_eq]; omega) (by rw [P_eq]; omega))
/-- Chains that differ stay different. -/
theorem jn_inj {a b n x : Nat} (ha : a < P) (hb : b < P) (h : jn a n x = jn b n x) : a = b := by
  have h1 : Cg P (a * B ^ n + x) (b * B ^ n + x) := h
  exact (cancel_pow n h1.cancel_add).eq ha hb
theorem ch_inj {a b : Nat} {s : List UInt8} (ha : a < P) (hb : b < P) (h : ch a s = ch b s) : a = b := jn_inj ha hb h
theorem ch_text {a : Nat} {s t : List UInt8} (hl : s.length = t.length) (h : ch a s = ch a t) : dg s = dg t := by
  have h1 : Cg P (a * B ^ (s.length + 1) + dg (10 :: s)) (a * B ^ (t.length + 1) + dg (10 :: t)) := h
  rw [hl, Nat.add_comm, Nat.add_comm (a * B ^ (t.length + 1))] at h1
  have h2 := h1.cancel_add
  have h3 := h2.eq (dg_lt _) (dg_lt _)
  rw [show (10 :: s : List UInt8) = [10] ++ s from rfl, show (10 :: t : List UInt8) = [10] ++ t from rfl, dg_append, dg_append, hl] at h3
  have h4 : Cg P (dg [10] * B ^ t.length + dg s) (dg [10] * B ^ t.length + dg t) := h3
  rw [Nat.add_comm, Nat.add_comm (dg [10] * B ^ t.length)] at h4
  exact h4.cancel_add.eq (dg_lt _) (dg_lt _)
/-! ### Chains of lists -/
theorem lk_length : ∀ (l : List (List UInt8)) (a : Nat), (lk a l).length = l.length
  | [], a => rfl
  | s :: r, a => by rw [lk, List.length_cons, List.length_cons, lk_length r]
/-- The digest behind a list. -/
def lastOf : Nat → List (List UInt8) → Nat
  | a, [] => a
  | a, s :: r => lastOf (ch a s) r
theorem lastOf_snoc : ∀ (l : List (List UInt8)) (a : Nat) (s : List UInt8), lastOf a (l ++ [s]) = ch (lastOf a l) s
  | [], a, s => rfl
  | t :: r, a, s => by rw [List.cons_append, lastOf, lastOf, lastOf_snoc r]
theorem lk_append : ∀ (l r : List (List UInt8)) (a : Nat), lk a (l ++ r) = lk a l ++ lk (lastOf a l) r
  | [], r, a => rfl
  | s :: l, r, a => by rw [List.cons_append, lk, lk, lk_append l r, List.cons_append, lastOf]
theorem lk_get : ∀ (l : List (List UInt8)) (a i : Nat), i < l.length → (lk a l)[i]? = some (lastOf a (l.take (i + 1)))
  | [], a, i, h => by simp at h
  | s :: r, a, 0, h => by rw [lk, List.take_succ_cons, List.take_zero, lastOf, lastOf]; rfl
  | s :: r, a, i + 1, h => by
    rw [lk, List.getElem?_cons_succ, List.take_succ_cons, lastOf]
    exact lk_get r _ i (by simpa using h)
theorem lastOf_next (l : List (List UInt8)) (a i : Nat) (s : List UInt8) (h : l[i]? = some s) : lastOf a (l.take (i + 1)) = ch (lastOf a (l.take i)) s := by
  rw [List.take_add_one, h]
  exact lastOf_snoc _ _ _
theorem lastOf_lt : ∀ (l : List (List UInt8)) (a : Nat), a < P → lastOf a l < P
  | [], a, h => h
  | s :: r, a, h => lastOf_lt r _ (ch_lt a s)
/-- The texts of a list, each behind a line end. -/
def joined : List (List UInt8) → List UInt8
  | [] => []
  | s :: r => 10 :: (s ++ joined r)
theorem joined_snoc : ∀ (l : List (List UInt8)) (s : List UInt8), joined (l ++ [s]) = joined l ++ [10] ++ s
  | [], s => by rw [List.nil_append, joined, joined, joined, List.append_nil]; rfl
  | t :: r, s => by rw [List.cons_append, joined, joined, joined_snoc r]; simp
theorem lastOf_dg : ∀ (l : List (List UInt8)), lastOf 0 l = dg (joined l) := by
  have go : ∀ n (l : List (List UInt8)), l.length = n → lastOf 0 l = dg (joined l) := by
    intro n
    induction n with
    | zero => intro l h; rw [List.eq_nil_of_length_eq_zero h]; rfl
    | succ n ih =>
      intro l h
      have hne : l ≠ [] := by intro e; rw [e] at h; simp at h
      rw [← List.dropLast_concat_getLast hne, lastOf_snoc, joined_snoc, ih _ (by rw [List.length_dropLast]; omega), ch_dg2]
  exact fun l => go _ l rfl
end Dig
end Go.Proofs.Ytlinmhmhgnhmeaa
