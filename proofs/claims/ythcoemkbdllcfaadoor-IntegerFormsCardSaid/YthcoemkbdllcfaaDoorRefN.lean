/-
  The contracts of the reference's functions and of Norm and Of, said of numbers.
-/
import Derived.Test.YthcoemkbdllcfaaDoorRefB
namespace Go.Proofs.YthcoemkbdllcfaaDoor
open Go.RowKit

/-- The slice v reads in blocks of S as the number m, in normal form and at most k limbs. -/
def Ns (w : World) (S : Nat → Prop) (v : Value) (m k : Nat) : Prop := ∃ l, Rd w S v l ∧ Num.Nrm l ∧ Num.val l = m ∧ l.length ≤ k
theorem Ns.nz {w : World} {S : Nat → Prop} {v : Value} {m k : Nat} (h : Ns w S v m k) : Nz w v m k := by
  obtain ⟨l, h1, h2, h3, h4⟩ := h
  exact ⟨l, h1.mono (fun _ _ => trivial), h2, h3, h4⟩
theorem Ns.mono {w : World} {S S' : Nat → Prop} {v : Value} {m k : Nat} (h : Ns w S v m k) (hS : ∀ g, S g → S' g) : Ns w S' v m k := by
  obtain ⟨l, h1, h2, h3, h4⟩ := h
  exact ⟨l, h1.mono hS, h2, h3, h4⟩
theorem Ns.old {w : World} {S : Nat → Prop} {v : Value} {m k : Nat} (h : Ns w S v m k) : Ns w (fun g => S g ∧ g < w.heap.size) v m k := by
  obtain ⟨l, h1, h2, h3, h4⟩ := h
  exact ⟨l, h1.old, h2, h3, h4⟩
theorem Ns.below {w w' : World} {S : Nat → Prop} {v : Value} {m k : Nat} (h : Ns w S v m k) (hb : Below w.heap.size w w') : Ns w' S v m k := by
  obtain ⟨l, h1, h2, h3, h4⟩ := h
  exact ⟨l, h1.below hb, h2, h3, h4⟩
theorem Ns.only {w w' : World} {g : Nat} {v : Value} {m k : Nat} (h : Ns w (· ≠ g) v m k) (hb : w.grownBy w' (some g)) : Ns w' (· ≠ g) v m k := by
  obtain ⟨l, h1, h2, h3, h4⟩ := h
  obtain ⟨A, c, e, e1, e2, e3, e4⟩ := h1
  exact ⟨l, ⟨A, c, e, e1, e2, e3, e4.only (fun _ h => h) hb⟩, h2, h3, h4⟩
/-- A call returns the number m in a block of its own, or nil; at most k limbs. -/
def NsEnd (m k : Nat) (w : World) (e : Ending) (w' : World) : Prop := ∃ v, e = .returned v ∧ Ns w' (fun g => w.heap.size ≤ g) v m k ∧ Below w.heap.size w w'
theorem NsEnd.fin {m k : Nat} {w w' : World} {e : Ending} (h : NsEnd m k w e w') : NEnd m k w e w' := by
  obtain ⟨v, he, h1, h2⟩ := h
  exact ⟨v, he, h1.nz, h2⟩
theorem NumNew.ns {m : Nat} {w w' : World} {e : Ending} (h : NumNew m w e w') (k : Nat) (hk : m < Num.K ^ k) : NsEnd m k w e w' := by
  obtain ⟨v, he, l, h1, h2, h3, h4⟩ := h
  exact ⟨v, he, ⟨l, h1, h2, h3, h2.len_le (by rw [h3]; exact hk)⟩, h4⟩

theorem Nz.nil (w : World) : Nz w (.slice none 0 0) 0 0 := ⟨[], Rd.nil _ _, Num.Nrm.nil, rfl, Nat.le_refl _⟩
theorem norm_n {w : World} {va : Value} {a k : Nat} (ha : Nm w va a k) (hk : k ≤ 1000) : Calls Tryd.prog 40 #[va] w (NEnd a k w) := by
  have h1 := ha.lt
  obtain ⟨la, ra, rfl, na⟩ := ha
  obtain ⟨A, n, c, rfl, Hn, hlc, hc, HLa, h⟩ := ra.open_
  have e1 := Hn.out
  refine (norm_walk (fun _ => True) A n c la w e1 hlc hc (by omega) h).mono fun e w' ⟨v, i, hi, he, ⟨g, hv, hg, ho, hb⟩, hz, hn⟩ => ?_
  subst hv
  exact ⟨_, he, ⟨la.take i, ho.rd _ trivial (HLa.out.take i) (by rw [List.length_take]; omega), hn, hz.val (by omega), by rw [List.length_take]; omega⟩, hb⟩
theorem of_n {w : World} (n : Nat) (hn : n < 18446744073709551616) : Calls Tryd.prog 51 #[.int .u64 (n : Int)] w (NEnd n 2 w) :=
  (of_walk n w hn).mono fun _ _ ⟨v, he, hr⟩ => ⟨v, he, hr.nz 2 (by rw [Num.K_eq]; exact hn)⟩
theorem rof_n {w : World} (n : Nat) (hn : n < 18446744073709551616) : Calls Tryd.prog 54 #[.int .u64 (n : Int)] w (NEnd n 2 w) :=
  (rof_walk n w hn).mono fun _ _ ⟨v, he, hr⟩ => ⟨v, he, hr.nz 2 (by rw [Num.K_eq]; exact hn)⟩
theorem rnorm_n {w : World} {va : Value} {a k : Nat} (ha : Nm w va a k) (hk : k ≤ 1000) : Calls Tryd.prog 53 #[va] w (NsEnd a k w) := by
  have h1 := ha.lt
  obtain ⟨la, ra, rfl, na⟩ := ha
  exact (rnorm_walk _ la w ra (by omega)).mono fun e w' h => h.ns _ h1
theorem rcmp_n {w : World} {va vb : Value} {a b k j : Nat} (ha : Nm w va a k) (hb : Nm w vb b j) (hk : k ≤ 1000) (hj : j ≤ 1000) (c : Int) (hc : cmpI a b = c) :
    Calls Tryd.prog 45 #[va, vb] w fun e w' => e = .returned (.int .i64 c) ∧ Below w.heap.size w w' := by
  obtain ⟨la, ra, rfl, na⟩ := ha
  obtain ⟨lb, rb, rfl, nb⟩ := hb
  refine (rcmp_walk _ _ la lb w ra rb (by omega) (by omega)).mono fun e w' ⟨he, hw⟩ => ?_
  subst hw
  exact ⟨by rw [he, hc], Below.refl _ _⟩
theorem radd_n {w : World} {va vb : Value} {a b k j : Nat} (ha : Nm w va a k) (hb : Nm w vb b j) (hk : k ≤ 1000) (hj : j ≤ 1000) : Calls Tryd.prog 48 #[va, vb] w (NsEnd (a + b) (max k j + 1) w) := by
  have h1 := ha.lt
  have h2 := hb.lt
  obtain ⟨la, ra, rfl, na⟩ := ha
  obtain ⟨lb, rb, rfl, nb⟩ := hb
  exact (radd_walk _ _ la lb w ra rb (by omega) (by omega)).mono fun e w' h => h.ns _ (add_lt h1 h2)
theorem sub_n0 {w : World} {va vb : Value} {a b k j : Nat} (ha : Nm w va a k) (hb : Nm w vb b j) (hlt : a < b) :
    Calls Tryd.prog 47 #[va, vb] w fun e w' => e = .returned (.tuple #[.slice none 0 0, .bool false]) ∧ Below w.heap.size w w' := by
  obtain ⟨la, ra, rfl, na⟩ := ha
  obtain ⟨lb, rb, rfl, nb⟩ := hb
  exact sub_lt_b _ _ la lb w ra rb hlt
theorem rsub_n0 {w : World} {va vb : Value} {a b k j : Nat} (ha : Nm w va a k) (hb : Nm w vb b j) (hk : k ≤ 1000) (hj : j ≤ 1000) (hlt : a < b) :
    Calls Tryd.prog 49 #[va, vb] w fun e w' => e = .returned (.tuple #[.slice none 0 0, .bool false]) ∧ Below w.heap.size w w' := by
  obtain ⟨la, ra, rfl, na⟩ := ha
  obtain ⟨lb, rb, rfl, nb⟩ := hb
  refine (rsub_lt _ _ la lb w ra rb (by omega) (by omega) hlt).mono fun e w' ⟨he, hw⟩ => ?_
  subst hw
  exact ⟨he, Below.refl _ _⟩
def SsEnd (m k : Nat) (w : World) (e : Ending) (w' : World) : Prop := ∃ v, e = .returned (.tuple #[v, .bool true]) ∧ Ns w' (fun g => w.heap.size ≤ g) v m k ∧ Below w.heap.size w w'
theorem rsub_n {w : World} {va vb : Value} {a b k j : Nat} (ha : Nm w va a k) (hb : Nm w vb b j) (hk : k ≤ 1000) (hj : j ≤ 1000) (hge : b ≤ a) : Calls Tryd.prog 49 #[va, vb] w (SsEnd (a - b) k w) := by
  have h1 := ha.lt
  obtain ⟨la, ra, rfl, na⟩ := ha
  obtain ⟨lb, rb, rfl, nb⟩ := hb
  exact (rsub_ge _ _ la lb w ra rb (by omega) (by omega) hge).mono fun e w' ⟨v, he, l, h1', h2, h3, h4⟩ => ⟨v, he, ⟨l, h1', h2, h3, h2.len_le (by rw [h3]; exact Nat.lt_of_le_of_lt (Nat.sub_le _ _) h1)⟩, h4⟩
end Go.Proofs.YthcoemkbdllcfaaDoor
