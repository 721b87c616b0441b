/-
  The contracts of the reference's functions and of Norm and Of, said of numbers.
-/
import Derived.Test.YtldkiolkhpjhbaaDoorRefB
namespace Go.Proofs.YtldkiolkhpjhbaaDoor
open Go.RowKit

theorem Nz.nil (w : World) : Nz w (.slice none 0 0) 0 0 := ⟨[], Rd.nil _ _, Num.Nrm.nil, rfl, Nat.le_refl _⟩
theorem same_n {w : World} {va vb : Value} {a b k j : Nat} (ha : Nz w va a k) (hb : Nz w vb b j) (h : a = b) :
    Calls Tryd.prog 15 #[va, vb] w fun e w' => e = .returned (.bool true) ∧ Below w.heap.size w w' := by
  obtain ⟨la, ra, na, rfl, _⟩ := ha
  obtain ⟨lb, rb, nb, rfl, _⟩ := hb
  exact same_b ra rb na nb h
theorem norm_n {w : World} {va : Value} {a k : Nat} (ha : Nm w va a k) (hk : k ≤ 1000) : Calls Tryd.prog 18 #[va] w (NEnd a k w) := by
  have h1 := ha.lt
  obtain ⟨la, ra, rfl, na⟩ := ha
  obtain ⟨A, n, c, rfl, Hn, hlc, hc, HLa, h⟩ := ra.open_
  have e1 := Hn.out
  refine (norm_walk (fun _ => True) A n c la w e1 hlc hc (by omega) h).mono fun e w' ⟨v, i, hi, he, ⟨g, hv, hg, ho, hb⟩, hz, hn⟩ => ?_
  subst hv
  exact ⟨_, he, ⟨la.take i, ho.rd _ trivial (HLa.out.take i) (by rw [List.length_take]; omega), hn, hz.val (by omega), by rw [List.length_take]; omega⟩, hb⟩
theorem of_n {w : World} (n : Nat) (hn : n < 18446744073709551616) : Calls Tryd.prog 16 #[.int .u64 (n : Int)] w (NEnd n 2 w) :=
  (of_walk n w hn).mono fun _ _ ⟨v, he, hr⟩ => ⟨v, he, hr.nz 2 (by rw [Num.K_eq]; exact hn)⟩
theorem rof_n {w : World} (n : Nat) (hn : n < 18446744073709551616) : Calls Tryd.prog 17 #[.int .u64 (n : Int)] w (NEnd n 2 w) :=
  (rof_walk n w hn).mono fun _ _ ⟨v, he, hr⟩ => ⟨v, he, hr.nz 2 (by rw [Num.K_eq]; exact hn)⟩
theorem rnorm_n {w : World} {va : Value} {a k : Nat} (ha : Nm w va a k) (hk : k ≤ 1000) : Calls Tryd.prog 19 #[va] w (NEnd a k w) := by
  have h1 := ha.lt
  obtain ⟨la, ra, rfl, na⟩ := ha
  exact (rnorm_walk _ la w ra (by omega)).mono fun e w' ⟨v, he, hr⟩ => ⟨v, he, hr.nz _ h1⟩
theorem rcmp_n {w : World} {va vb : Value} {a b k j : Nat} (ha : Nm w va a k) (hb : Nm w vb b j) (hk : k ≤ 1000) (hj : j ≤ 1000) (c : Int) (hc : cmpI a b = c) :
    Calls Tryd.prog 21 #[va, vb] w fun e w' => e = .returned (.int .i64 c) ∧ Below w.heap.size w w' := by
  obtain ⟨la, ra, rfl, na⟩ := ha
  obtain ⟨lb, rb, rfl, nb⟩ := hb
  refine (rcmp_walk _ _ la lb w ra rb (by omega) (by omega)).mono fun e w' ⟨he, hw⟩ => ?_
  subst hw
  exact ⟨by rw [he, hc], Below.refl _ _⟩
theorem radd_n {w : World} {va vb : Value} {a b k j : Nat} (ha : Nm w va a k) (hb : Nm w vb b j) (hk : k ≤ 1000) (hj : j ≤ 1000) : Calls Tryd.prog 25 #[va, vb] w (NEnd (a + b) (max k j + 1) w) := by
  have h1 := ha.lt
  have h2 := hb.lt
  obtain ⟨la, ra, rfl, na⟩ := ha
  obtain ⟨lb, rb, rfl, nb⟩ := hb
  exact (radd_walk _ _ la lb w ra rb (by omega) (by omega)).mono fun e w' ⟨v, he, hr⟩ => ⟨v, he, hr.nz _ (add_lt h1 h2)⟩
theorem sub_n0 {w : World} {va vb : Value} {a b k j : Nat} (ha : Nm w va a k) (hb : Nm w vb b j) (hlt : a < b) :
    Calls Tryd.prog 22 #[va, vb] w fun e w' => e = .returned (.tuple #[.slice none 0 0, .bool false]) ∧ Below w.heap.size w w' := by
  obtain ⟨la, ra, rfl, na⟩ := ha
  obtain ⟨lb, rb, rfl, nb⟩ := hb
  exact sub_lt_b _ _ la lb w ra rb hlt
theorem rsub_n0 {w : World} {va vb : Value} {a b k j : Nat} (ha : Nm w va a k) (hb : Nm w vb b j) (hk : k ≤ 1000) (hj : j ≤ 1000) (hlt : a < b) :
    Calls Tryd.prog 23 #[va, vb] w fun e w' => e = .returned (.tuple #[.slice none 0 0, .bool false]) ∧ Below w.heap.size w w' := by
  obtain ⟨la, ra, rfl, na⟩ := ha
  obtain ⟨lb, rb, rfl, nb⟩ := hb
  refine (rsub_lt _ _ la lb w ra rb (by omega) (by omega) hlt).mono fun e w' ⟨he, hw⟩ => ?_
  subst hw
  exact ⟨he, Below.refl _ _⟩
theorem rsub_n {w : World} {va vb : Value} {a b k j : Nat} (ha : Nm w va a k) (hb : Nm w vb b j) (hk : k ≤ 1000) (hj : j ≤ 1000) (hge : b ≤ a) : Calls Tryd.prog 23 #[va, vb] w (SNEnd (a - b) k w) := by
  have h1 := ha.lt
  obtain ⟨la, ra, rfl, na⟩ := ha
  obtain ⟨lb, rb, rfl, nb⟩ := hb
  exact (rsub_ge _ _ la lb w ra rb (by omega) (by omega) hge).mono fun e w' ⟨v, he, hr⟩ => ⟨v, he, hr.nz _ (Nat.lt_of_le_of_lt (Nat.sub_le _ _) h1)⟩
end Go.Proofs.YtldkiolkhpjhbaaDoor
