/-
  Plain arithmetic for layer 5 (draws); no program is named here. A step of the generator is d -> (d * m + a) mod W; what many steps make, the period of the lowest bits, that a step is one-to-one; exchanging two elements of a list.
-/
namespace Go.Proofs.Ythkgmjbjiiddhaa
namespace Dra
set_option linter.unusedVariables false

theorem m1 (x y z W : Nat) : (x % W * y + z) % W = (x * y + z) % W := by rw [Nat.add_mod, Nat.mul_mod, Nat.mod_mod, ← Nat.mul_mod, ← Nat.add_mod]
theorem m2 (x y z W : Nat) : (x * (y % W) + z % W) % W = (x * y + z) % W := by
  rw [Nat.add_mod, Nat.mod_mod, Nat.mul_mod, Nat.mod_mod, ← Nat.mul_mod, ← Nat.add_mod]
def af (W m a d : Nat) : Nat := (d * m + a) % W
/-- k steps. -/
def it (W m a : Nat) : Nat → Nat → Nat
  | 0, d => d
  | k + 1, d => it W m a k (af W m a d)
theorem it_zero (W m a d : Nat) : it W m a 0 d = d := rfl
theorem it_one (W m a d : Nat) : it W m a 1 d = af W m a d := rfl
theorem it_succ (W m a k d : Nat) : it W m a (k + 1) d = it W m a k (af W m a d) := rfl
theorem it_add (W m a : Nat) : ∀ (j k d : Nat), it W m a (j + k) d = it W m a k (it W m a j d)
  | 0, k, d => by rw [Nat.zero_add]; rfl
  | j + 1, k, d => by rw [Nat.add_right_comm]; exact it_add W m a j k (af W m a d)
/-- Two steps are one of the square of the map. -/
theorem af_af (W m a d : Nat) : af W m a (af W m a d) = af W (m * m % W) ((a * m + a) % W) d := by
  simp only [af]
  rw [m1, m2]
  congr 1
  grind
theorem it_two (W m a : Nat) : ∀ (k d : Nat), it W m a (2 * k) d = it W (m * m % W) ((a * m + a) % W) k d
  | 0, d => rfl
  | k + 1, d => by
    rw [Nat.mul_add, show 2 * 1 = 1 + 1 from rfl, ← Nat.add_assoc, it_succ, it_succ, af_af, it_two W m a k, it_succ]
/-- Halving the number of steps, as the loop of Skip does it. -/
theorem it_even (W m a k d : Nat) (h : k % 2 = 0) : it W m a k d = it W (m * m % W) ((a * m + a) % W) (k / 2) d := by
  rw [← it_two]; congr 1; omega
theorem it_odd (W m a k d : Nat) (h : k % 2 = 1) : it W m a k d = it W (m * m % W) ((a * m + a) % W) (k / 2) (af W m a d) := by
  rw [← it_two, ← it_succ]; congr 1; omega
theorem it_lt (W m a : Nat) (hW : 0 < W) : ∀ (k d : Nat), d < W → it W m a k d < W
  | 0, d, h => h
  | k + 1, d, h => it_lt W m a hW k _ (Nat.mod_lt _ hW)
/-- The map of 2^i steps. -/
def mm (W m : Nat) : Nat → Nat
  | 0 => m
  | i + 1 => mm W m i * mm W m i % W
def aa (W m a : Nat) : Nat → Nat
  | 0 => a
  | i + 1 => (aa W m a i * mm W m i + aa W m a i) % W
theorem it_pow (W m a : Nat) : ∀ (i k d : Nat), it W m a (2 ^ i * k) d = it W (mm W m i) (aa W m a i) k d
  | 0, k, d => by rw [Nat.pow_zero, Nat.one_mul]; rfl
  | i + 1, k, d => by rw [Nat.pow_succ, Nat.mul_assoc, it_pow W m a i, it_two]; rfl
theorem it_pow1 (W m a i d : Nat) : it W m a (2 ^ i) d = af W (mm W m i) (aa W m a i) d := by
  have := it_pow W m a i 1 d
  rwa [Nat.mul_one, it_one] at this
theorem mod_pow (x i N : Nat) (h : i ≤ N) : x % 2 ^ N % 2 ^ i = x % 2 ^ i := Nat.mod_mod_of_dvd x (Nat.pow_dvd_pow 2 h)
/-- The factor of 2^i steps is 1 but for its bits from i + 2 on; the summand is 2^i but for its bits from i + 1 on. -/
theorem mm_mod (N m : Nat) (hm : m % 4 = 1) : ∀ i, i + 2 ≤ N → mm (2 ^ N) m i % 2 ^ (i + 2) = 1
  | 0, h => hm
  | i + 1, h => by
    have ih := mm_mod N m hm i (by omega)
    simp only [mm]
    rw [mod_pow _ _ _ (by omega)]
    obtain ⟨t, ht⟩ : ∃ t, mm (2 ^ N) m i = 1 + 2 ^ (i + 2) * t := ⟨mm (2 ^ N) m i / 2 ^ (i + 2), by
      have := Nat.mod_add_div (mm (2 ^ N) m i) (2 ^ (i + 2))
      omega⟩
    rw [ht]
    have e : (1 + 2 ^ (i + 2) * t) * (1 + 2 ^ (i + 2) * t) = 1 + 2 ^ (i + 1 + 2) * (t + 2 ^ (i + 1) * t * t) := by
      have e1 : 2 ^ (i + 1 + 2) = 2 ^ (i + 2) * 2 := by rw [show i + 1 + 2 = i + 2 + 1 by omega, Nat.pow_succ]
      have e2 : 2 ^ (i + 2) = 2 ^ (i + 1) * 2 := by rw [show i + 2 = i + 1 + 1 by omega, Nat.pow_succ]
      rw [e1, e2]
      generalize 2 ^ (i + 1) = P
      grind
    rw [e, Nat.add_mul_mod_self_left]
    exact Nat.mod_eq_of_lt (Nat.one_lt_two_pow (by omega))
theorem aa_mod (N m a : Nat) (hm : m % 4 = 1) (ha : a % 2 = 1) : ∀ i, i + 2 ≤ N → aa (2 ^ N) m a i % 2 ^ (i + 1) = 2 ^ i
  | 0, h => ha
  | i + 1, h => by
    have ih := aa_mod N m a hm ha i (by omega)
    have hmm := mm_mod N m hm i (by omega)
    simp only [aa]
    rw [mod_pow _ _ _ (by omega)]
    obtain ⟨t, ht⟩ : ∃ t, aa (2 ^ N) m a i = 2 ^ i + 2 ^ (i + 1) * t := ⟨aa (2 ^ N) m a i / 2 ^ (i + 1), by
      have := Nat.mod_add_div (aa (2 ^ N) m a i) (2 ^ (i + 1))
      omega⟩
    obtain ⟨u, hu⟩ : ∃ u, mm (2 ^ N) m i = 1 + 2 ^ (i + 2) * u := ⟨mm (2 ^ N) m i / 2 ^ (i + 2), by
      have := Nat.mod_add_div (mm (2 ^ N) m i) (2 ^ (i + 2))
      omega⟩
    rw [ht, hu]
    have e : (2 ^ i + 2 ^ (i + 1) * t) * (1 + 2 ^ (i + 2) * u) + (2 ^ i + 2 ^ (i + 1) * t) = 2 ^ (i + 1) + 2 ^ (i + 1 + 1) * (t + (2 ^ i + 2 ^ (i + 1) * t) * u) := by
      have e1 : 2 ^ (i + 1) = 2 ^ i * 2 := Nat.pow_succ ..
      have e2 : 2 ^ (i + 2) = 2 ^ i * 4 := by rw [Nat.pow_add]
      rw [e1, e2]
      generalize 2 ^ i = P
      grind
    rw [e, Nat.add_mul_mod_self_left]
    exact Nat.mod_eq_of_lt (Nat.pow_lt_pow_right (by omega) (by omega))
/-- The lowest k bits return after 2^k steps. -/
theorem period_whole (N m a : Nat) (hm : m % 4 = 1) (ha : a % 2 = 1) (k d : Nat) (hk : k + 2 ≤ N) : it (2 ^ N) m a (2 ^ k) d % 2 ^ k = d % 2 ^ k := by
  have h1 := mm_mod N m hm k hk
  have h2 := aa_mod N m a hm ha k hk
  rw [it_pow1, af, mod_pow _ _ _ (by omega)]
  have e1 : mm (2 ^ N) m k % 2 ^ k = 1 % 2 ^ k := by
    rw [← mod_pow _ k (k + 2) (by omega), h1]
  have e2 : aa (2 ^ N) m a k % 2 ^ k = 0 := by
    rw [← mod_pow _ k (k + 1) (by omega), h2, Nat.mod_self]
  rw [Nat.add_mod, e2, Nat.add_zero, Nat.mod_mod, Nat.mul_mod, e1, ← Nat.mul_mod, Nat.mul_one]
/-- After half as many steps they differ by half of 2^k. -/
theorem period_half (N m a : Nat) (hm : m % 4 = 1) (ha : a % 2 = 1) (k d : Nat) (hk : k + 3 ≤ N) : it (2 ^ N) m a (2 ^ k) d % 2 ^ (k + 1) = (d + 2 ^ k) % 2 ^ (k + 1) := by
  have h1 := mm_mod N m hm k (by omega)
  have h2 := aa_mod N m a hm ha k (by omega)
  rw [it_pow1, af, mod_pow _ _ _ (by omega)]
  have e1 : mm (2 ^ N) m k % 2 ^ (k + 1) = 1 % 2 ^ (k + 1) := by
    rw [← mod_pow _ (k + 1) (k + 2) (by omega), h1]
  rw [Nat.add_mod, h2, Nat.mul_mod, e1, ← Nat.mul_mod, Nat.mul_one, ← Nat.add_mod_mod, Nat.mod_add_mod, Nat.add_mod_mod]
/-- A step is one-to-one where the factor has an inverse. -/
theorem af_inj (W m a v : Nat) (hv : m * v % W = 1 % W) (d e : Nat) (hd : d < W) (he : e < W) (h : af W m a d = af W m a e) : d = e := by
  have key : ∀ x y : Nat, x ≤ y → y < W → af W m a x = af W m a y → x = y := by
    intro x y hxy hy hxy'
    simp only [af] at hxy'
    have h1 : (y * m + a - (x * m + a)) % W = 0 := Nat.sub_mod_eq_zero_of_mod_eq hxy'.symm
    have h2 : y * m + a - (x * m + a) = (y - x) * m := by
      rw [Nat.sub_mul]; omega
    rw [h2] at h1
    have h3 : (y - x) * m * v % W = 0 := by rw [Nat.mul_mod, h1, Nat.zero_mul, Nat.zero_mod]
    rw [Nat.mul_assoc, Nat.mul_mod, hv, ← Nat.mul_mod, Nat.mul_one, Nat.mod_eq_of_lt (by omega)] at h3
    omega
  rcases Nat.le_total d e with h1 | h1
  · exact key d e h1 he h
  · exact (key e d h1 hd h.symm).symm
theorem factor_inv : 6364136223846793005 * 13877824140714322085 % 18446744073709551616 = 1 := by decide +kernel

/-- Two elements of a list exchanged. -/
def swp (l : List Nat) (i j : Nat) : List Nat := (l.set i (l.getD j 0)).set j (l.getD i 0)
theorem swp_len (l : List Nat) (i j : Nat) : (swp l i j).length = l.length := by simp [swp]
theorem swp_self (l : List Nat) (i : Nat) (h : i < l.length) : swp l i i = l := by
  simp only [swp, List.set_set]
  rw [List.getD_eq_getElem?_getD, List.getElem?_eq_getElem h]
  simp
theorem swp_get (l : List Nat) (i j : Nat) (hi : i < l.length) (hj : j < l.length) (x : Nat) : (swp l i j)[x]? = if x = j then l[i]? else if x = i then l[j]? else l[x]? := by
  simp only [swp, List.getD_eq_getElem?_getD, List.getElem?_eq_getElem hi, List.getElem?_eq_getElem hj, Option.getD_some, List.getElem?_set, List.length_set]
  by_cases h1 : j = x
  · subst h1; simp [hj]
  · have h1' : ¬ x = j := fun h => h1 h.symm
    by_cases h2 : i = x
    · subst h2; simp [h1, h1', hi]
    · have h2' : ¬ x = i := fun h => h2 h.symm
      simp [h1, h1', h2, h2']
/-- All elements are below n, and no two are equal. -/
def Ord (l : List Nat) (n : Nat) : Prop := l.length = n ∧ (∀ x ∈ l, x < n) ∧ l.Nodup
theorem ord_range (n : Nat) : Ord (List.range n) n := ⟨List.length_range, fun x h => List.mem_range.1 h, List.nodup_range⟩
theorem swp_perm (l : List Nat) (i j : Nat) (hi : i < l.length) (hj : j < l.length) : (swp l i j).Perm l := by
  rw [List.perm_iff_count]
  intro c
  by_cases hij : i = j
  · subst hij; rw [swp_self l i hi]
  · have e1 : l.getD j 0 = l[j] := by rw [List.getD_eq_getElem?_getD, List.getElem?_eq_getElem hj]; rfl
    have e2 : l.getD i 0 = l[i] := by rw [List.getD_eq_getElem?_getD, List.getElem?_eq_getElem hi]; rfl
    have hj' : j < (l.set i l[j]).length := by simpa using hj
    rw [swp, e1, e2, List.count_set hj', List.count_set hi]
    have e3 : (l.set i l[j])[j] = l[j] := by rw [List.getElem_set]; simp [hij]
    rw [e3]
    have c1 : (if l[i] == c then 1 else 0) ≤ l.count c := by
      split
      · rename_i h
        exact List.count_pos_iff.2 ((beq_iff_eq.1 h) ▸ List.getElem_mem hi)
      · omega
    generalize (if (l[i] == c) = true then 1 else 0) = A at *
    generalize (if (l[j] == c) = true then 1 else 0) = B at *
    omega
theorem Ord.swp {l : List Nat} {n : Nat} (h : Ord l n) (i j : Nat) (hi : i < n) (hj : j < n) : Ord (swp l i j) n := by
  obtain ⟨h1, h2, h3⟩ := h
  have p := swp_perm l i j (by omega) (by omega)
  exact ⟨by rw [swp_len, h1], fun x hx => h2 x (p.mem_iff.1 hx), p.nodup_iff.2 h3⟩
/-- The elements of the first k, ascending. -/
def pick (l : List Nat) (n k : Nat) : List Nat := (List.range n).filter (fun x => decide (x ∈ l.take k))
theorem pick_mem (l : List Nat) (n k x : Nat) : x ∈ pick l n k ↔ x < n ∧ x ∈ l.take k := by simp [pick]
theorem pick_sorted (l : List Nat) (n k : Nat) : (pick l n k).Pairwise (· < ·) := List.Pairwise.filter _ List.pairwise_lt_range
theorem pick_perm {l : List Nat} {n : Nat} (h : Ord l n) (k : Nat) : (pick l n k).Perm (l.take k) := by
  refine (List.perm_ext_iff_of_nodup ?_ ?_).2 fun x => ?_
  · exact (pick_sorted l n k).imp (fun h => Nat.ne_of_lt h)
  · exact h.2.2.sublist (List.take_sublist _ _)
  · rw [pick_mem]
    exact ⟨fun h => h.2, fun hx => ⟨h.2.1 x (List.mem_of_mem_take hx), hx⟩⟩
theorem pick_len {l : List Nat} {n : Nat} (h : Ord l n) (k : Nat) (hk : k ≤ n) : (pick l n k).length = k := by
  rw [(pick_perm h k).length_eq, List.length_take, h.1]; omega
end Dra
end Go.Proofs.Ythkgmjbjiiddhaa
