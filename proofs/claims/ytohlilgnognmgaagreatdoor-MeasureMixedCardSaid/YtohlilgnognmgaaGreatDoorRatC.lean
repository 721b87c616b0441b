/-
  What a drawn assignment leaves: one or two new variables, and what was there as it was.
-/
import Derived.Test.YtohlilgnognmgaaGreatDoorRatK
import Derived.Deep.DeepCutAuto
namespace Go.Proofs.YtohlilgnognmgaaGreatDoor
open Go.RowKit
set_option linter.unusedVariables false

/-- A drawn assignment has been done: new variables hold what was called for; below B all is as it was in W. -/
def OneQ (B : Nat) (W : World) (x : Rat) (k j : Nat) (s1 : Value) (wx : World) : Prop :=
  ∃ (g : Nat) (b1 : Bool) (A1 : Option Addr) (n1 c1 : Nat) (B1 : Option Addr) (m1 d1 : Nat), s1 = .pointer (some ⟨g, 0, none⟩) ∧ Bq wx g (.bool b1) (.slice A1 n1 c1) (.slice B1 m1 d1) ∧ Qz wx (.agg #[.bool b1, .slice A1 n1 c1, .slice B1 m1 d1]) x k j ∧ B ≤ g ∧ Bw B W wx
def OneI (B : Nat) (W : World) (z : Int) (k : Nat) (s1 : Value) (wx : World) : Prop :=
  ∃ (g : Nat) (b1 : Bool) (A1 : Option Addr) (n1 c1 : Nat), s1 = .pointer (some ⟨g, 0, none⟩) ∧ Bx wx g (.bool b1) (.slice A1 n1 c1) ∧ Iz wx (.agg #[.bool b1, .slice A1 n1 c1]) z k ∧ B ≤ g ∧ Bw B W wx
def TwoQ (B : Nat) (W : World) (x y : Rat) (k j k' j' : Nat) (s1 s2 : Value) (wx : World) : Prop :=
  ∃ (g : Nat) (b1 : Bool) (A1 : Option Addr) (n1 c1 : Nat) (B1 : Option Addr) (m1 d1 : Nat) (g' : Nat) (b2 : Bool) (A2 : Option Addr) (n2 c2 : Nat) (B2 : Option Addr) (m2 d2 : Nat), s1 = .pointer (some ⟨g, 0, none⟩) ∧ s2 = .pointer (some ⟨g', 0, none⟩) ∧
    Bq wx g (.bool b1) (.slice A1 n1 c1) (.slice B1 m1 d1) ∧ Bq wx g' (.bool b2) (.slice A2 n2 c2) (.slice B2 m2 d2) ∧ Qz wx (.agg #[.bool b1, .slice A1 n1 c1, .slice B1 m1 d1]) x k j ∧ Qz wx (.agg #[.bool b2, .slice A2 n2 c2, .slice B2 m2 d2]) y k' j' ∧ B ≤ g ∧ B ≤ g' ∧ Bw B W wx
def TwoV (B : Nat) (W : World) (x y : Rat) (k j k' j' : Nat) (s1 s2 : Value) (wx : World) : Prop :=
  ∃ (g : Nat) (b1 : Bool) (A1 : Option Addr) (n1 c1 : Nat) (B1 : Option Addr) (m1 d1 : Nat) (g' : Nat) (b2 : Bool) (A2 : Option Addr) (n2 c2 : Nat) (B2 : Option Addr) (m2 d2 : Nat), s1 = .pointer (some ⟨g, 0, none⟩) ∧ s2 = .pointer (some ⟨g', 0, none⟩) ∧
    Bq wx g (.bool b1) (.slice A1 n1 c1) (.slice B1 m1 d1) ∧ Bq wx g' (.bool b2) (.slice A2 n2 c2) (.slice B2 m2 d2) ∧ Qv wx (.agg #[.bool b1, .slice A1 n1 c1, .slice B1 m1 d1]) x k j ∧ Qv wx (.agg #[.bool b2, .slice A2 n2 c2, .slice B2 m2 d2]) y k' j' ∧ B ≤ g ∧ B ≤ g' ∧ Bw B W wx
theorem Bw.below {B : Nat} {W0 W w1 : World} (h : Bw B W0 W) (bb : Below W.heap.size W w1) : Bw B W0 w1 := h.up bb
theorem Nz.iv0 {w : World} {A : Option Addr} {n c m k : Nat} (h : Nz w (.slice A n c) m k) : Iv w (.agg #[.bool false, .slice A n c]) (m : Int) k := h.nm.iv false
end Go.Proofs.YtohlilgnognmgaaGreatDoor
