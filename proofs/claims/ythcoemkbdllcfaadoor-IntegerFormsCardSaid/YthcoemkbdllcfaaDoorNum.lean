/-
  Plain arithmetic of numbers in limbs of 32 bits: no program is named here. 'val' is the value of a list of limbs, 'Lim' says that each limb is below 2^32, 'Nrm' that the last one is not 0.
-/
import Derived.WalkKit
namespace Go.Proofs.YthcoemkbdllcfaaDoor
namespace Num

/-- One more than the greatest limb. -/
def K : Nat := 4294967296
theorem K_eq : K = 4294967296 := rfl
theorem K_pos : 0 < K := by decide

def val : List Nat → Nat
  | [] => 0
  | x :: xs => x + K * val xs
def Lim (l : List Nat) : Prop := ∀ x ∈ l, x < K
def Nrm (l : List Nat) : Prop := l.getLast? ≠ some 0

theorem val_nil : val [] = 0 := rfl
theorem val_cons (x : Nat) (l : List Nat) : val (x :: l) = x + K * val l := rfl
theorem val_append (a b : List Nat) : val (a ++ b) = val a + K ^ a.length * val b := by
  induction a with
  | nil => simp [val]
  | cons x a ih => simp only [List.cons_append, val, ih, List.length_cons, Nat.pow_succ]; rw [Nat.mul_add, ← Nat.mul_assoc, Nat.mul_comm K (K ^ a.length)]; omega
theorem val_one (x : Nat) : val [x] = x := by simp [val]
theorem val_snoc (a : List Nat) (x : Nat) : val (a ++ [x]) = val a + K ^ a.length * x := by rw [val_append, val_one]
theorem val_split (l : List Nat) (k : Nat) (hk : k ≤ l.length) : val l = val (l.take k) + K ^ k * val (l.drop k) := by
  have h := val_append (l.take k) (l.drop k)
  rw [List.take_append_drop, List.length_take, Nat.min_eq_left hk] at h
  exact h
theorem val_zeros (l : List Nat) (h : ∀ x ∈ l, x = 0) : val l = 0 := by
  induction l with
  | nil => rfl
  | cons x l ih => rw [val, h x (by simp), ih (fun y hy => h y (by simp [hy]))]; simp
theorem val_replicate (n : Nat) : val (List.replicate n 0) = 0 := val_zeros _ (fun _ hx => (List.mem_replicate.1 hx).2)
theorem Lim.nil : Lim [] := fun _ h => by simp at h
theorem Lim.cons {x : Nat} {l : List Nat} (hx : x < K) (h : Lim l) : Lim (x :: l) := fun y hy => by
  rcases List.mem_cons.1 hy with rfl | hy
  · exact hx
  · exact h y hy
theorem Lim.append {a b : List Nat} (ha : Lim a) (hb : Lim b) : Lim (a ++ b) := fun x hx => by
  rcases List.mem_append.1 hx with h | h
  · exact ha x h
  · exact hb x h
theorem Lim.take {l : List Nat} (h : Lim l) (k : Nat) : Lim (l.take k) := fun x hx => h x (List.mem_of_mem_take hx)
theorem Lim.drop {l : List Nat} (h : Lim l) (k : Nat) : Lim (l.drop k) := fun x hx => h x (List.mem_of_mem_drop hx)
theorem Lim.set {l : List Nat} (h : Lim l) (k x : Nat) (hx : x < K) : Lim (l.set k x) := fun y hy => by
  rcases List.mem_or_eq_of_mem_set hy with hy | rfl
  · exact h y hy
  · exact hx
theorem Lim.at {l : List Nat} (h : Lim l) {k x : Nat} (hx : l[k]? = some x) : x < K := h x (List.mem_of_getElem? hx)
theorem Lim.replicate (n : Nat) : Lim (List.replicate n 0) := fun x hx => by rw [(List.mem_replicate.1 hx).2]; exact K_pos
theorem val_lt (l : List Nat) (h : Lim l) : val l < K ^ l.length := by
  induction l with
  | nil => simp [val]
  | cons x l ih =>
    have hx := h x (by simp)
    have hl := ih (fun y hy => h y (by simp [hy]))
    rw [val, List.length_cons, Nat.pow_succ, Nat.mul_comm]
    have h1 : val l + 1 ≤ K ^ l.length := hl
    have h2 := Nat.mul_le_mul_right K h1
    rw [Nat.add_mul, Nat.one_mul] at h2
    omega
theorem pow_pos' (k : Nat) : 0 < K ^ k := Nat.pow_pos K_pos
theorem Nrm.ge {l : List Nat} (h : Nrm l) (hl : l ≠ []) : K ^ (l.length - 1) ≤ val l := by
  obtain ⟨a, x, rfl⟩ : ∃ a x, l = a ++ [x] := ⟨l.dropLast, l.getLast hl, (List.dropLast_concat_getLast hl).symm⟩
  have hx : x ≠ 0 := fun e => h (by rw [List.getLast?_append]; simp [e])
  rw [val_snoc]
  have : K ^ a.length * 1 ≤ K ^ a.length * x := Nat.mul_le_mul_left _ (by omega)
  simp only [List.length_append, List.length_cons, List.length_nil, Nat.zero_add, Nat.add_sub_cancel]
  omega
theorem Nrm.lt_of_length {a b : List Nat} (ha : Lim a) (hb : Nrm b) (h : a.length < b.length) : val a < val b := by
  have h1 := val_lt a ha
  have h2 := hb.ge (by intro e; rw [e] at h; simp at h)
  exact Nat.lt_of_lt_of_le h1 (Nat.le_trans (Nat.pow_le_pow_right K_pos (by omega)) h2)
theorem Nrm.len_le {l : List Nat} {k : Nat} (h : Nrm l) (hv : val l < K ^ k) : l.length ≤ k := by
  by_cases hl : l = []
  · subst hl; simp
  have h2 := h.ge hl
  rcases Nat.lt_or_ge k l.length with hk | hk
  · have h3 : K ^ k ≤ K ^ (l.length - 1) := Nat.pow_le_pow_right K_pos (by omega)
    omega
  · exact hk
theorem Nrm.nil : Nrm [] := by simp [Nrm]
theorem Nrm.eq_nil {l : List Nat} (h : Nrm l) (hv : val l = 0) : l = [] := by
  have := h.len_le (k := 0) (by rw [hv]; simp)
  exact List.eq_nil_of_length_eq_zero (by omega)
theorem val_inj (a b : List Nat) (ha : Lim a) (hb : Lim b) (hl : a.length = b.length) (hv : val a = val b) : a = b := by
  induction a generalizing b with
  | nil => exact (List.eq_nil_of_length_eq_zero hl.symm).symm
  | cons x a ih =>
    match b, hl with
    | y :: b, hl =>
      have hx := ha x (by simp)
      have hy := hb y (by simp)
      rw [val, val] at hv
      have e1 : x = y := by
        have := congrArg (· % K) hv
        simpa [Nat.add_mul_mod_self_left, Nat.mod_eq_of_lt hx, Nat.mod_eq_of_lt hy] using this
      have e2 : val a = val b := Nat.eq_of_mul_eq_mul_left K_pos (by omega)
      rw [e1, ih b (fun z hz => ha z (by simp [hz])) (fun z hz => hb z (by simp [hz])) (by simpa using hl) e2]
theorem Nrm.inj {a b : List Nat} (ha : Lim a) (hb : Lim b) (na : Nrm a) (nb : Nrm b) (hv : val a = val b) : a = b := by
  refine val_inj a b ha hb ?_ hv
  rcases Nat.lt_trichotomy a.length b.length with h | h | h
  · have := Nrm.lt_of_length ha nb h; omega
  · exact h
  · have := Nrm.lt_of_length hb na h; omega
theorem K_two : 2 ≤ K := by decide
theorem no_carry (P B a b r cr : Nat) (hB : 2 ≤ B) (h : r + P * B * cr = a + b) (ha : a < P) (hb : b < P) (hc : cr ≤ 1) : r = a + b := by
  rcases Nat.lt_or_ge cr 1 with h1 | h1
  · obtain rfl : cr = 0 := by omega
    simpa using h
  · obtain rfl : cr = 1 := by omega
    have := Nat.mul_le_mul_left P hB
    rw [Nat.mul_one] at h
    omega
/-- Nothing but zeros from place k on. -/
def Zer (l : List Nat) (k : Nat) : Prop := ∀ j x, k ≤ j → l[j]? = some x → x = 0
theorem Zer.top (l : List Nat) : Zer l l.length := fun j x hj hx => by
  have := (List.getElem?_eq_some_iff.1 hx).1
  omega
theorem Zer.step {l : List Nat} {k : Nat} (h : Zer l (k + 1)) (hx : l[k]? = some 0) : Zer l k := fun j x hj hjx => by
  rcases Nat.lt_or_ge k j with hlt | hge
  · exact h j x hlt hjx
  · obtain rfl : j = k := by omega
    rw [hx] at hjx
    injection hjx with e
    exact e.symm
theorem Zer.val {l : List Nat} {k : Nat} (h : Zer l k) (hk : k ≤ l.length) : Num.val (l.take k) = Num.val l := by
  rw [val_split l k hk, val_zeros (l.drop k), Nat.mul_zero, Nat.add_zero]
  intro x hx
  obtain ⟨j, hj⟩ := List.getElem?_of_mem hx
  rw [List.getElem?_drop] at hj
  exact h (k + j) x (by omega) hj
theorem nrm_take_of {l : List Nat} {k x : Nat} (hx : l[k]? = some x) (h0 : x ≠ 0) : Nrm (l.take (k + 1)) := by
  have hk := (List.getElem?_eq_some_iff.1 hx).1
  unfold Nrm
  rw [List.getLast?_take]
  simp [hx, h0]
theorem nrm_take_zero (l : List Nat) : Nrm (l.take 0) := by simp [Nrm]
end Num
end Go.Proofs.YthcoemkbdllcfaaDoor
