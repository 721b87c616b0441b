/-
  The contracts of natural's functions, said of numbers: 'Nm w v m k': the value v reads in the world w as the number m, in at most k limbs; 'Nz': in normal form besides.
-/
import Derived.Test.YthcoemkbdllcfaaDoorLit
namespace Go.Proofs.YthcoemkbdllcfaaDoor
open Go.RowKit

def Nm (w : World) (v : Value) (m k : Nat) : Prop := ∃ l, Rd w (fun _ => True) v l ∧ Num.val l = m ∧ l.length ≤ k
def Nz (w : World) (v : Value) (m k : Nat) : Prop := ∃ l, Rd w (fun _ => True) v l ∧ Num.Nrm l ∧ Num.val l = m ∧ l.length ≤ k
theorem Nz.nm {w : World} {v : Value} {m k : Nat} (h : Nz w v m k) : Nm w v m k := by
  obtain ⟨l, h1, _, h2, h3⟩ := h
  exact ⟨l, h1, h2, h3⟩
theorem Nm.below {w w' : World} {v : Value} {m k : Nat} (h : Nm w v m k) (hb : Below w.heap.size w w') : Nm w' v m k := by
  obtain ⟨l, h1, h2, h3⟩ := h
  exact ⟨l, h1.below hb, h2, h3⟩
theorem Nz.below {w w' : World} {v : Value} {m k : Nat} (h : Nz w v m k) (hb : Below w.heap.size w w') : Nz w' v m k := by
  obtain ⟨l, h1, h0, h2, h3⟩ := h
  exact ⟨l, h1.below hb, h0, h2, h3⟩
theorem Nm.lt {w : World} {v : Value} {m k : Nat} (h : Nm w v m k) : m < Num.K ^ k := by
  obtain ⟨l, h1, rfl, h3⟩ := h
  exact Nat.lt_of_lt_of_le (Num.val_lt l h1.lim) (Nat.pow_le_pow_right Num.K_pos h3)
theorem Nm.nil (w : World) : Nm w (.slice none 0 0) 0 0 := ⟨[], Rd.nil _ _, rfl, Nat.le_refl _⟩
theorem Nm.one (W : World) (g : Nat) (hg : g = W.heap.size) : Nm (W.alloc (.cells #[.int .u32 1] 46)) (.slice (some ⟨g, 0, none⟩) 1 1) 1 1 :=
  ⟨[1], Rd.lit W [1] _ g 1 rfl rfl hg (lim1 _ (by omega)) (by omega), by simp [Num.val], Nat.le_refl _⟩
theorem Res.nz {w w' : World} {v : Value} {m : Nat} (h : Res w w' v m) (k : Nat) (hk : m < Num.K ^ k) : Nz w' v m k ∧ Below w.heap.size w w' := by
  obtain ⟨l, h1, h2, h3, h4⟩ := h
  exact ⟨⟨l, h1, h2, h3, h2.len_le (by rw [h3]; exact hk)⟩, h4⟩
theorem Nz.empty {w : World} {v : Value} {k : Nat} (h : Nz w v 0 k) : ∃ A c, v = .slice A 0 c := by
  obtain ⟨l, h1, h0, h2, h3⟩ := h
  obtain ⟨A, c, e⟩ := h1.len
  rw [h0.eq_nil h2] at e
  exact ⟨A, c, e⟩
/-- A call returns the number m, in normal form and at most k limbs; what was there is as it was. -/
def NEnd (m k : Nat) (w : World) (e : Ending) (w' : World) : Prop := ∃ v, e = .returned v ∧ Nz w' v m k ∧ Below w.heap.size w w'
theorem add_lt {a b k j : Nat} (ha : a < Num.K ^ k) (hb : b < Num.K ^ j) : a + b < Num.K ^ (max k j + 1) := by
  have h1 : Num.K ^ k ≤ Num.K ^ max k j := Nat.pow_le_pow_right Num.K_pos (Nat.le_max_left _ _)
  have h2 : Num.K ^ j ≤ Num.K ^ max k j := Nat.pow_le_pow_right Num.K_pos (Nat.le_max_right _ _)
  have h3 := Nat.mul_le_mul_left (Num.K ^ max k j) Num.K_two
  rw [Nat.pow_succ]
  omega
theorem mul_lt' {a b k j : Nat} (ha : a < Num.K ^ k) (hb : b < Num.K ^ j) : a * b < Num.K ^ (k + j) := by
  rw [Nat.pow_add]
  exact Nat.mul_lt_mul_of_lt_of_le ha (Nat.le_of_lt hb) (Num.pow_pos' j)
theorem add_n {w : World} {va vb : Value} {a b k j : Nat} (ha : Nm w va a k) (hb : Nm w vb b j) (hk : k ≤ 1000) (hj : j ≤ 1000) : Calls Tryd.prog 46 #[va, vb] w (NEnd (a + b) (max k j + 1) w) := by
  have h1 := ha.lt
  have h2 := hb.lt
  obtain ⟨la, ra, rfl, na⟩ := ha
  obtain ⟨lb, rb, rfl, nb⟩ := hb
  exact (add_walk _ _ la lb w ra rb (by omega) (by omega)).mono fun e w' ⟨v, he, hr⟩ => ⟨v, he, hr.nz _ (add_lt h1 h2)⟩
theorem mul_n {w : World} {va vb : Value} {a b k j : Nat} (ha : Nm w va a k) (hb : Nm w vb b j) (hk : k ≤ 1000) (hj : j ≤ 1000) : Calls Tryd.prog 55 #[va, vb] w (NEnd (a * b) (k + j) w) := by
  have h1 := ha.lt
  have h2 := hb.lt
  obtain ⟨la, ra, rfl, na⟩ := ha
  obtain ⟨lb, rb, rfl, nb⟩ := hb
  exact (mul_walk _ _ la lb w ra rb (by omega) (by omega)).mono fun e w' ⟨v, he, hr⟩ => ⟨v, he, hr.nz _ (mul_lt' h1 h2)⟩
theorem cmp_n {w : World} {va vb : Value} {a b k j : Nat} (ha : Nm w va a k) (hb : Nm w vb b j) (c : Int) (hc : cmpI a b = c) :
    Calls Tryd.prog 44 #[va, vb] w fun e w' => e = .returned (.int .i64 c) ∧ Below w.heap.size w w' := by
  obtain ⟨la, ra, rfl, na⟩ := ha
  obtain ⟨lb, rb, rfl, nb⟩ := hb
  exact cmp_b _ _ la lb w ra rb c hc
theorem div_n0 {w : World} {va vb : Value} {a b k j : Nat} (ha : Nm w va a k) (hb : Nm w vb b j) (h0 : b = 0) :
    Calls Tryd.prog 50 #[va, vb] w fun e w' => e = .returned (.tuple #[.slice none 0 0, .slice none 0 0, .bool false]) ∧ w = w' := by
  obtain ⟨la, ra, rfl, na⟩ := ha
  obtain ⟨lb, rb, rfl, nb⟩ := hb
  exact divmod_zero _ _ la lb w ra rb h0
def DNEnd (q r k j : Nat) (w : World) (e : Ending) (w' : World) : Prop := ∃ v1 v2, e = .returned (.tuple #[v1, v2, .bool true]) ∧ Nz w' v1 q k ∧ Nz w' v2 r j ∧ Below w.heap.size w w'
theorem div_n {w : World} {va vb : Value} {a b k j : Nat} (ha : Nm w va a k) (hb : Nm w vb b j) (hk : k ≤ 1000) (hb0 : 0 < b) : Calls Tryd.prog 50 #[va, vb] w (DNEnd (a / b) (a % b) k j w) := by
  have h1 := ha.lt
  have h2 := hb.lt
  obtain ⟨la, ra, rfl, na⟩ := ha
  obtain ⟨lb, rb, rfl, nb⟩ := hb
  refine (divmod_pos _ _ la lb w ra rb (by omega) hb0).mono fun e w' ⟨v1, v2, he, hr1, hr2⟩ => ?_
  have e1 := hr1.nz k (Nat.lt_of_le_of_lt (Nat.div_le_self _ _) h1)
  have e2 := hr2.nz j (Nat.lt_trans (Nat.mod_lt _ hb0) h2)
  exact ⟨v1, v2, he, e1.1, e2.1, e1.2⟩
def SNEnd (m k : Nat) (w : World) (e : Ending) (w' : World) : Prop := ∃ v, e = .returned (.tuple #[v, .bool true]) ∧ Nz w' v m k ∧ Below w.heap.size w w'
theorem sub_n {w : World} {va vb : Value} {a b k j : Nat} (ha : Nm w va a k) (hb : Nm w vb b j) (hk : k ≤ 1000) (hge : b ≤ a) : Calls Tryd.prog 47 #[va, vb] w (SNEnd (a - b) k w) := by
  have h1 := ha.lt
  obtain ⟨la, ra, rfl, na⟩ := ha
  obtain ⟨lb, rb, rfl, nb⟩ := hb
  exact (sub_ge _ _ la lb w ra rb (by omega) hge).mono fun e w' ⟨v, he, hr⟩ => ⟨v, he, hr.nz _ (Nat.lt_of_le_of_lt (Nat.sub_le _ _) h1)⟩
/-- A slice that came in, its length by name. -/
theorem Rd.named {w : World} {v : Value} {l : List Nat} (h : Rd w (fun _ => True) v l) : ∃ A n c, v = .slice A n c ∧ n ≤ 9223372036854775807 ∧ Nm w (.slice A n c) (Num.val l) n := by
  have h' := h
  obtain ⟨A, c, rfl, h1, h2, _⟩ := h
  exact ⟨A, l.length, c, rfl, by omega, l, h', rfl, Nat.le_refl _⟩
end Go.Proofs.YthcoemkbdllcfaaDoor
