import Derived.Test.YtohlilgnognmgaaGreatDoorJText
import Derived.Lib.SmallJoins
import Derived.Deep.RegionHeld3
import Derived.Deep.DrawnRows
import Derived.Test.YtohlilgnognmgaaGreatDoorJRef
import Derived.Test.YtohlilgnognmgaaGreatDoorTie
import Derived.Test.YtohlilgnognmgaaGreatDoorCards
import Derived.ProofKit
import Derived.LaidMore
import Derived.OpenShut
import Derived.ShutString
import Derived.ChangeOld
import Derived.Below
import Derived.Stop.Joined
import Derived.Lib.LaidTab
import Derived.SevenTiedAt
/-
  Integers as values: 'Iv w v z k': the value v reads in the world w as the integer z, its magnitude in at most k limbs; 'Iz': in normal form besides. Boxes of two cells: 'Bx' (what a variable holds), 'Rx' (a result's variable, not written yet).
-/
namespace Go.Proofs.YtohlilgnognmgaaGreatDoor
open Go.RowKit

def sgn (b : Bool) (m : Nat) : Int := if b then -(m : Int) else m
theorem sgn_true (m : Nat) : sgn true m = -(m : Int) := rfl
theorem sgn_false (m : Nat) : sgn false m = (m : Int) := rfl
theorem sgn_zero (b : Bool) : sgn b 0 = 0 := by cases b <;> rfl
def Iv (w : World) (v : Value) (z : Int) (k : Nat) : Prop := ∃ b A n c m, v = .agg #[.bool b, .slice A n c] ∧ Nm w (.slice A n c) m k ∧ z = sgn b m
def Iz (w : World) (v : Value) (z : Int) (k : Nat) : Prop := ∃ b A n c m, v = .agg #[.bool b, .slice A n c] ∧ Nz w (.slice A n c) m k ∧ z = sgn b m ∧ (m = 0 → b = false)
/-- A call returns the integer z in normal form, at most k limbs; what was there is as it was. -/
def IEnd (z : Int) (k : Nat) (w : World) (e : Ending) (w' : World) : Prop := ∃ v, e = .returned v ∧ Iz w' v z k ∧ Below w.heap.size w w'
theorem Iz.iv {w : World} {v : Value} {z : Int} {k : Nat} (h : Iz w v z k) : Iv w v z k := by
  obtain ⟨b, A, n, c, m, rfl, h1, h2, _⟩ := h
  exact ⟨b, A, n, c, m, rfl, h1.nm, h2⟩
theorem Iv.below {w w' : World} {v : Value} {z : Int} {k : Nat} (h : Iv w v z k) (hb : Below w.heap.size w w') : Iv w' v z k := by
  obtain ⟨b, A, n, c, m, rfl, h1, h2⟩ := h
  exact ⟨b, A, n, c, m, rfl, h1.below hb, h2⟩
theorem Iz.below {w w' : World} {v : Value} {z : Int} {k : Nat} (h : Iz w v z k) (hb : Below w.heap.size w w') : Iz w' v z k := by
  obtain ⟨b, A, n, c, m, rfl, h1, h2⟩ := h
  exact ⟨b, A, n, c, m, rfl, h1.below hb, h2⟩
theorem Iv.drew {w : World} {v : Value} {z : Int} {k : Nat} (h : Iv w v z k) : Iv w.drew v z k := h
theorem Iz.drew {w : World} {v : Value} {z : Int} {k : Nat} (h : Iz w v z k) : Iz w.drew v z k := h
theorem Nm.drew {w : World} {v : Value} {m k : Nat} (h : Nm w v m k) : Nm w.drew v m k := h
theorem Nz.drew {w : World} {v : Value} {m k : Nat} (h : Nz w v m k) : Nz w.drew v m k := h
theorem b_drew {w w' : World} {B : Nat} (h : Below B w w') : Below B w w'.drew := ⟨h.os, h.tape, h.output, h.size, h.block⟩
theorem Nz.wide' {w : World} {v : Value} {m k k' : Nat} (h : Nz w v m k) (hk : k ≤ k') : Nz w v m k' := by
  obtain ⟨l, h1, h2, h3, h4⟩ := h
  exact ⟨l, h1, h2, h3, by omega⟩
theorem Iz.wide {w : World} {v : Value} {z : Int} {k k' : Nat} (h : Iz w v z k) (hk : k ≤ k') : Iz w v z k' := by
  obtain ⟨b, A, n, c, m, rfl, h1, h2⟩ := h
  exact ⟨b, A, n, c, m, rfl, h1.wide' hk, h2⟩
theorem Nz.len0 {w : World} {A : Option Addr} {n c m k : Nat} (h : Nz w (.slice A n c) m k) : (n = 0 ↔ m = 0) ∧ n ≤ k ∧ n ≤ 9223372036854775807 := by
  obtain ⟨l, ⟨A', c', e, h1, h2, h3, h4⟩, hn, hv, hk⟩ := h
  simp only [Value.slice.injEq] at e
  obtain ⟨-, rfl, -⟩ := e
  refine ⟨⟨fun h => ?_, fun h => ?_⟩, hk, by omega⟩
  · rw [← hv, List.eq_nil_of_length_eq_zero h]; rfl
  · rw [h] at hv
    rw [hn.eq_nil hv]; rfl
theorem Nm.form {w : World} {v : Value} {m k : Nat} (h : Nm w v m k) : ∃ A n c, v = .slice A n c ∧ n ≤ k ∧ n ≤ 9223372036854775807 := by
  obtain ⟨l, ⟨A', c', e, h1, h2, h3, h4⟩, hv, hk⟩ := h
  exact ⟨A', _, c', e, hk, by omega⟩
theorem Iz.mk {w : World} {A : Option Addr} {n c m k : Nat} (b : Bool) (h : Nz w (.slice A n c) m k) (z : Int) (hz : z = sgn b m) : Iz w (.agg #[.bool (b && decide (0 < n)), .slice A n c]) z k := by
  have h0 := h.len0.1
  refine ⟨_, A, n, c, m, rfl, h, ?_, fun e => ?_⟩
  · rw [hz]
    by_cases hn : n = 0
    · rw [h0.1 hn, sgn_zero, sgn_zero]
    · rw [decide_eq_true (by omega : 0 < n), Bool.and_true]
  · rw [decide_eq_false (by have := h0.2 e; omega), Bool.and_false]
/-- A result, its cells by name. -/
theorem Iz.cells {w : World} {v : Value} {z : Int} {k : Nat} (h : Iz w v z k) : ∃ b A n c, v = .agg #[.bool b, .slice A n c] ∧ Iz w (.agg #[.bool b, .slice A n c]) z k := by
  obtain ⟨b, A, n, c, m, rfl, h1⟩ := h
  exact ⟨b, A, n, c, rfl, b, A, n, c, m, rfl, h1⟩
theorem Iz.parts {w : World} {b : Bool} {A : Option Addr} {n c k : Nat} {z : Int} (h : Iz w (.agg #[.bool b, .slice A n c]) z k) : ∃ m, Nz w (.slice A n c) m k ∧ z = sgn b m ∧ (m = 0 → b = false) := by
  obtain ⟨b', A', n', c', m, e, h1, h2, h3⟩ := h
  simp only [Value.agg.injEq, Array.mk.injEq, List.cons.injEq, Value.bool.injEq, Value.slice.injEq, and_true] at e
  obtain ⟨rfl, rfl, rfl, rfl⟩ := e
  exact ⟨m, h1, h2, h3⟩
theorem Iz.eq {w : World} {v u : Value} {z y : Int} {k j : Nat} (h : Iz w v z k) (hu : Iz w u y j) (e : z = y) : ∃ b A n c B m d l, v = .agg #[.bool b, .slice A n c] ∧ u = .agg #[.bool b, .slice B m d] ∧ Rd w (fun _ => True) (.slice A n c) l ∧ Rd w (fun _ => True) (.slice B m d) l := by
  obtain ⟨b, A, n, c, m, rfl, ⟨l, h1, h2, h3, _⟩, h5, h6⟩ := h
  obtain ⟨b', A', n', c', m', rfl, ⟨l', h1', h2', h3', _⟩, h5', h6'⟩ := hu
  have hm : m = m' ∧ b = b' := by
    rw [h5, h5'] at e
    cases b <;> cases b' <;> simp only [sgn_true, sgn_false] at e <;> simp at h6 h6' ⊢ <;> omega
  obtain ⟨rfl, rfl⟩ := hm
  have e := Num.Nrm.inj h1.lim h1'.lim h2 h2' (h3.trans h3'.symm)
  subst e
  exact ⟨b, A, n, c, A', n', c', l, rfl, rfl, h1, h1'⟩

def Bx (w : World) (g : Nat) (v0 v1 : Value) : Prop := w.cell? ⟨g, 0, none⟩ = some v0 ∧ w.cell? ⟨g, 1, none⟩ = some v1
theorem Bx.below {w w' : World} {g : Nat} {v0 v1 : Value} (h : Bx w g v0 v1) (hb : Below w.heap.size w w') : Bx w' g v0 v1 :=
  ⟨by rw [hb.cell (World.block_lt_of_cell? w _ h.1)]; exact h.1, by rw [hb.cell (World.block_lt_of_cell? w _ h.2)]; exact h.2⟩
theorem Bx.ret {w : World} {g r : Nat} {v0 v1 : Value} (h : Bx w g v0 v1) (hne : g ≠ r) (a b : Value) : Bx ((w.setCell ⟨r, 0, none⟩ a).setCell ⟨r, 1, none⟩ b) g v0 v1 := by
  have e : ∀ i j : Nat, (⟨r, i, none⟩ : Addr) ≠ ⟨g, j, none⟩ := fun i j h => hne (Addr.mk.inj h).1.symm
  exact ⟨(World.cell?_setCell_other _ _ _ _ (e _ _)).trans ((World.cell?_setCell_other _ _ _ _ (e _ _)).trans h.1), (World.cell?_setCell_other _ _ _ _ (e _ _)).trans ((World.cell?_setCell_other _ _ _ _ (e _ _)).trans h.2)⟩
theorem Bx.drew {w : World} {g : Nat} {v0 v1 : Value} (h : Bx w g v0 v1) : Bx w.drew g v0 v1 := h
theorem Bx.new (w : World) (g : Nat) (hg : g = w.heap.size) (v0 v1 : Value) : Bx (w.alloc (.cells #[v0, v1] 25)) g v0 v1 := by
  subst hg
  exact ⟨by simp, by simp⟩
theorem below_a1 (w : World) (o : Obj) : Below w.heap.size w (w.alloc o) := below_alloc w o
theorem below_a2 (w : World) (o p : Obj) : Below w.heap.size w ((w.alloc o).alloc p) := (below_a1 w o).trans ((below_alloc _ p).mono (below_a1 w o).size)
theorem below_a3 (w : World) (o p q : Obj) : Below w.heap.size w (((w.alloc o).alloc p).alloc q) := (below_a2 w o p).trans ((below_alloc _ q).mono (below_a2 w o p).size)
theorem below_a4 (w : World) (o p q r : Obj) : Below w.heap.size w ((((w.alloc o).alloc p).alloc q).alloc r) := (below_a3 w o p q).trans ((below_alloc _ r).mono (below_a3 w o p q).size)
theorem Bx.later {w : World} {g : Nat} {v0 v1 : Value} (h : Bx w g v0 v1) (o : Obj) : Bx (w.alloc o) g v0 v1 := h.below (below_alloc w o)
def Rx (w : World) (g : Nat) : Prop := w.cell? ⟨g, 0, none⟩ = some (.bool false) ∧ w.cell? ⟨g, 1, none⟩ = some (.slice none 0 0) ∧ w.frozen? ⟨g, 0, none⟩ = false ∧ w.frozen? ⟨g, 1, none⟩ = false
theorem Rx.new (w : World) (g : Nat) (hg : g = w.heap.size) : Rx (w.alloc (.cells #[.bool false, .slice none 0 0] 25)) g := by
  subst hg
  exact ⟨by simp, by simp, by simp, by simp⟩
theorem Rx.below {w w' : World} {g : Nat} (h : Rx w g) (hb : Below w.heap.size w w') : Rx w' g := by
  have hg : g < w.heap.size := World.block_lt_of_cell? w _ h.1
  exact ⟨(hb.cell (p := ⟨g, 0, none⟩) hg).trans h.1, (hb.cell (p := ⟨g, 1, none⟩) hg).trans h.2.1, (hb.frozen (p := ⟨g, 0, none⟩) hg).trans h.2.2.1, (hb.frozen (p := ⟨g, 1, none⟩) hg).trans h.2.2.2⟩
theorem Rx.ret {w : World} {g r : Nat} (h : Rx w g) (hne : g ≠ r) (a b : Value) : Rx ((w.setCell ⟨r, 0, none⟩ a).setCell ⟨r, 1, none⟩ b) g := by
  have e : ∀ i j : Nat, (⟨r, i, none⟩ : Addr) ≠ ⟨g, j, none⟩ := fun i j h => hne (Addr.mk.inj h).1.symm
  obtain ⟨h1, h2, h3, h4⟩ := h
  exact ⟨(World.cell?_setCell_other _ _ _ _ (e _ _)).trans ((World.cell?_setCell_other _ _ _ _ (e _ _)).trans h1), (World.cell?_setCell_other _ _ _ _ (e _ _)).trans ((World.cell?_setCell_other _ _ _ _ (e _ _)).trans h2), by simpa using h3, by simpa using h4⟩
theorem Rx.over {w : World} {g : Nat} (h : Rx w g) : (∀ o, (w.alloc o).cell? ⟨g, 0, none⟩ = some (.bool false)) ∧ (∀ o, (w.alloc o).cell? ⟨g, 1, none⟩ = some (.slice none 0 0)) ∧ (∀ o, (w.alloc o).frozen? ⟨g, 0, none⟩ = false) ∧ (∀ o, (w.alloc o).frozen? ⟨g, 1, none⟩ = false) :=
  ⟨fun o => (h.below (below_alloc _ o)).1, fun o => (h.below (below_alloc _ o)).2.1, fun o => (h.below (below_alloc _ o)).2.2.1, fun o => (h.below (below_alloc _ o)).2.2.2⟩
theorem Rx.apart {w : World} {g : Nat} (h : Rx w g) : g < w.heap.size ∧ g ≠ w.heap.size ∧ w.heap.size ≠ g := by
  have : g < w.heap.size := World.block_lt_of_cell? w _ h.1
  omega
theorem Rx.drew {w : World} {g : Nat} (h : Rx w g) : Rx w.drew g := h
/-- What is no limb can be written without harm to a number. -/
def NoInt (v : Value) : Prop := ∀ k i, v ≠ .int k i
theorem NoInt.bool (b : Bool) : NoInt (.bool b) := fun _ _ h => by cases h
theorem NoInt.slice (A : Option Addr) (n c : Nat) : NoInt (.slice A n c) := fun _ _ h => by cases h
theorem CelAt.put {w : World} {g off : Nat} {l : List Nat} {p : Addr} {x : Value} (h : CelAt w g off l) (hp : w.cell? p = some x) (hx : NoInt x) (u : Value) : CelAt (w.setCell p u) g off l := fun j y hy => by
  have := h j y hy
  rw [World.cell?_setCell_other]
  · exact this
  · rintro rfl
    rw [hp] at this
    exact hx _ _ (Option.some.inj this)
theorem Rd.put {w : World} {S : Nat → Prop} {v : Value} {l : List Nat} {p : Addr} {x : Value} (h : Rd w S v l) (hp : w.cell? p = some x) (hx : NoInt x) (u : Value) : Rd (w.setCell p u) S v l := by
  obtain ⟨A, c, e, h1, h2, h3, h4⟩ := h
  refine ⟨A, c, e, h1, h2, h3, fun hl => ?_⟩
  obtain ⟨g, off, e, hs, hc⟩ := h4 hl
  exact ⟨g, off, e, hs, hc.put hp hx u⟩
theorem Nz.put {w : World} {v : Value} {m k : Nat} {p : Addr} {x : Value} (h : Nz w v m k) (hp : w.cell? p = some x) (hx : NoInt x) (u : Value) : Nz (w.setCell p u) v m k := by
  obtain ⟨l, h1, h2, h3, h4⟩ := h
  exact ⟨l, h1.put hp hx u, h2, h3, h4⟩
theorem Nm.put {w : World} {v : Value} {m k : Nat} {p : Addr} {x : Value} (h : Nm w v m k) (hp : w.cell? p = some x) (hx : NoInt x) (u : Value) : Nm (w.setCell p u) v m k := by
  obtain ⟨l, h1, h2, h3⟩ := h
  exact ⟨l, h1.put hp hx u, h2, h3⟩
theorem Iz.put {w : World} {v : Value} {z : Int} {k : Nat} {p : Addr} {x : Value} (h : Iz w v z k) (hp : w.cell? p = some x) (hx : NoInt x) (u : Value) : Iz (w.setCell p u) v z k := by
  obtain ⟨b, A, n, c, m, rfl, h1, h2⟩ := h
  exact ⟨b, A, n, c, m, rfl, h1.put hp hx u, h2⟩
theorem Iv.put {w : World} {v : Value} {z : Int} {k : Nat} {p : Addr} {x : Value} (h : Iv w v z k) (hp : w.cell? p = some x) (hx : NoInt x) (u : Value) : Iv (w.setCell p u) v z k := by
  obtain ⟨b, A, n, c, m, rfl, h1, h2⟩ := h
  exact ⟨b, A, n, c, m, rfl, h1.put hp hx u, h2⟩
/-- The result's variable written. -/
theorem Iz.ret {w : World} {v : Value} {z : Int} {k g : Nat} (h : Iz w v z k) (hr : Rx w g) (a b : Value) : Iz ((w.setCell ⟨g, 0, none⟩ a).setCell ⟨g, 1, none⟩ b) v z k := by
  refine (h.put hr.1 (NoInt.bool _) a).put (x := .slice none 0 0) ?_ (NoInt.slice _ _ _) b
  exact (World.cell?_setCell_other _ _ _ _ (by simp)).trans hr.2.1
theorem below_ret {w0 w : World} {B g : Nat} (h : Below B w0 w) (hg : B ≤ g) (a b : Value) : Below B w0 ((w.setCell ⟨g, 0, none⟩ a).setCell ⟨g, 1, none⟩ b) := (h.setCell (p := ⟨g, 0, none⟩) hg a).setCell (p := ⟨g, 1, none⟩) hg b
theorem Iz.later {w : World} {v : Value} {z : Int} {k : Nat} (h : Iz w v z k) (o : Obj) : Iz (w.alloc o) v z k := h.below (below_alloc w o)
theorem Iv.later {w : World} {v : Value} {z : Int} {k : Nat} (h : Iv w v z k) (o : Obj) : Iv (w.alloc o) v z k := h.below (below_alloc w o)
theorem Iv.ret {w : World} {v : Value} {z : Int} {k g : Nat} (h : Iv w v z k) (hr : Rx w g) (a b : Value) : Iv ((w.setCell ⟨g, 0, none⟩ a).setCell ⟨g, 1, none⟩ b) v z k := by
  refine (h.put hr.1 (NoInt.bool _) a).put (x := .slice none 0 0) ?_ (NoInt.slice _ _ _) b
  exact (World.cell?_setCell_other _ _ _ _ (by simp)).trans hr.2.1
theorem Rx.written {w : World} {g : Nat} (h : Rx w g) (a b : Value) : Bx ((w.setCell ⟨g, 0, none⟩ a).setCell ⟨g, 1, none⟩ b) g a b :=
  ⟨(World.cell?_setCell_other _ _ _ _ (by simp)).trans (World.cell?_setCell_same _ _ _ h.1), World.cell?_setCell_same (u := .slice none 0 0) _ _ _ ((World.cell?_setCell_other _ _ _ _ (by simp)).trans h.2.1)⟩
/-- From W0 on nothing below B has changed, and there are at least B blocks. -/
def Bw (B : Nat) (W0 W : World) : Prop := Below B W0 W ∧ B ≤ W.heap.size
theorem Bw.up {B : Nat} {W0 W w1 : World} (h : Bw B W0 W) (bb : Below W.heap.size W w1) : Bw B W0 w1 := ⟨h.1.trans (bb.mono h.2), Nat.le_trans h.2 bb.size⟩
theorem Bw.alloc {B : Nat} {W0 W : World} (h : Bw B W0 W) (o : Obj) : Bw B W0 (W.alloc o) := h.up (below_alloc W o)
theorem Bw.drew {B : Nat} {W0 W : World} (h : Bw B W0 W) : Bw B W0 W.drew := ⟨b_drew h.1, h.2⟩
theorem Bw.set {B : Nat} {W0 W : World} (h : Bw B W0 W) (p : Addr) (hp : B ≤ p.block) (u : Value) : Bw B W0 (W.setCell p u) := ⟨h.1.setCell hp u, by simpa [World.setCell] using h.2⟩
theorem Bw.bx {B : Nat} {W0 W : World} {g : Nat} {v0 v1 : Value} (h : Bw B W0 W) (k : Bx W0 g v0 v1) (hg : g < B) : Bx W g v0 v1 := ⟨(h.1.cell (p := ⟨g, 0, none⟩) hg).trans k.1, (h.1.cell (p := ⟨g, 1, none⟩) hg).trans k.2⟩
theorem Bw.rx {B : Nat} {W0 W : World} {g : Nat} (h : Bw B W0 W) (k : Rx W0 g) (hg : g < B) : Rx W g :=
  ⟨(h.1.cell (p := ⟨g, 0, none⟩) hg).trans k.1, (h.1.cell (p := ⟨g, 1, none⟩) hg).trans k.2.1, (h.1.frozen (p := ⟨g, 0, none⟩) hg).trans k.2.2.1, (h.1.frozen (p := ⟨g, 1, none⟩) hg).trans k.2.2.2⟩
/-- 'u, v := f(..), g(..)' has been done: two variables of their own hold the integers z and y; below B all is as it was in W. -/
def Two (B : Nat) (W : World) (z y : Int) (k j : Nat) (s5 s6 : Value) (wx : World) : Prop :=
  ∃ (gx gy : Nat) (b1 : Bool) (A1 : Option Addr) (n1 c1 : Nat) (b2 : Bool) (A2 : Option Addr) (n2 c2 : Nat), s5 = .pointer (some ⟨gx, 0, none⟩) ∧ s6 = .pointer (some ⟨gy, 0, none⟩) ∧
    Bx wx gx (.bool b1) (.slice A1 n1 c1) ∧ Bx wx gy (.bool b2) (.slice A2 n2 c2) ∧ Iz wx (.agg #[.bool b1, .slice A1 n1 c1]) z k ∧ Iz wx (.agg #[.bool b2, .slice A2 n2 c2]) y j ∧ Bw B W wx
theorem Bw.ret {B : Nat} {W0 W : World} {g : Nat} (h : Bw B W0 W) (hg : B ≤ g) (a b : Value) : Bw B W0 ((W.setCell ⟨g, 0, none⟩ a).setCell ⟨g, 1, none⟩ b) := (h.set _ hg a).set _ hg b
end Go.Proofs.YtohlilgnognmgaaGreatDoor
/-
  The walks of integer.signed, Norm, Neg, Add, Sub and Mul.
-/
namespace Go.Proofs.YtohlilgnognmgaaGreatDoor
open Go.RowKit
attribute [local go_sem ↓] Go.wp_at_zero Go.wp_at_succ
set_option linter.unusedVariables false

theorem signed_any (b : Bool) (A : Option Addr) (n c : Nat) (w : World) (hn : n ≤ 9223372036854775807) :
    Calls Tryz.prog 77 #[.bool b, .slice A n c] w fun e w' => e = .returned (.agg #[.bool (b && decide (0 < n)), .slice A n c]) ∧ Below w.heap.size w w' := by
  cases b
  all_goals
    go_enter Tryz.func77, Tryz.ntmps77
    go_wp2
    refine bodyPost_ret (v := .agg #[_, .slice A n c]) (by simp [results, Tryz.results77, go_sem]) rfl ⟨rfl, (Below.refl _ _).alloc (Nat.le_refl _) _⟩
theorem signed_i {w : World} {v : Value} {m k : Nat} (b : Bool) (h : Nz w v m k) (z : Int) (hz : z = sgn b m) : Calls Tryz.prog 77 #[.bool b, v] w (IEnd z k w) := by
  obtain ⟨A, n, c, rfl, hk, hn⟩ := h.nm.form
  exact (signed_any b A n c w hn).mono fun e w' ⟨he, hb⟩ => ⟨_, he, Iz.mk b (h.below hb) z hz, hb⟩
theorem sgn_not (b : Bool) (m : Nat) : sgn (!b) m = -sgn b m := by cases b <;> simp [sgn]
theorem sgn_mul (b c : Bool) (m l : Nat) : sgn (!(b == c)) (m * l) = sgn b m * sgn c l := by cases b <;> cases c <;> simp [sgn, Int.neg_mul, Int.mul_neg]
theorem sgn_add (b : Bool) (m l : Nat) : sgn b (m + l) = sgn b m + sgn b l := by cases b <;> simp [sgn] <;> omega
theorem sgn_ge (b : Bool) (m l : Nat) (h : l ≤ m) : sgn b (m - l) = sgn b m + sgn (!b) l := by cases b <;> simp [sgn] <;> omega
theorem sgn_lt (b : Bool) (m l : Nat) (h : m < l) : sgn (!b) (l - m) = sgn b m + sgn (!b) l := by cases b <;> simp [sgn] <;> omega
set_option maxRecDepth 20000 in
set_option maxHeartbeats 1000000 in
theorem inorm_i {w : World} {v : Value} {z : Int} {k : Nat} (h : Iv w v z k) (hk : k ≤ 900) : Calls Tryz.prog 57 #[v] w (IEnd (z) k w) := by
  obtain ⟨b, A, n, c, m, rfl, hm, hz⟩ := h
  have HZ : Hid (z = sgn b m) := by show _ = _; rw [hz]
  clear hz
  have B0 := below_a2 w (.cells #[.bool b, .slice A n c] 25) (.cells #[.bool false, .slice none 0 0] 25)
  have hm := hm.below B0
  have ka := ((Bx.new w (w.heap.size) (by simp) (.bool b) (.slice A n c)).below (below_alloc (w.alloc (.cells #[.bool b, .slice A n c] 25)) (.cells #[.bool false, .slice none 0 0] 25)))
  have kr := (Rx.new (w.alloc (.cells #[.bool b, .slice A n c] 25)) (w.heap.size + 1) (by simp))
  go_enter Tryz.func57, Tryz.ntmps57
  go_wp2_with fail
  have hm := hm.drew
  have ka := ka.drew
  have kr := kr.drew
  have B0 := b_drew B0
  go_region_held3 (fun w' => w'.cell? ⟨w.heap.size, 0, none⟩ = some (.bool b) ∧ w'.cell? ⟨w.heap.size, 1, none⟩ = some (.slice A n c)) (first | exact ⟨ka.1, ka.2⟩ | exact ⟨(ka.ret (r := w.heap.size + 1) (by omega) _ _).1, (ka.ret (r := w.heap.size + 1) (by omega) _ _).2⟩)
    (first
      | (go_at_call 54; (with_reducible refine (norm_n hm ?_).mono ?_); omega; rintro e w1 ⟨v1, rfl, z1, bb⟩; have hm := hm.below bb; have ka := ka.below bb; have kr := kr.below bb; have B0 := B0.trans (bb.mono B0.size); clear bb)
      | (go_at_call 77; (with_reducible refine (signed_i b z1 _ HZ.out).mono ?_); rintro e w2 ⟨vr, rfl, zr, bb⟩; have ka := ka.below bb; have kr := kr.below bb; have B0 := B0.trans (bb.mono B0.size); clear bb; obtain ⟨br, Ar, nr, cr, rfl, zr⟩ := zr.cells; have kr0 := kr.1; have kr1 := kr.2.1; have kr2 := kr.2.2.1; have kr3 := kr.2.2.2))
  go_wp2
  refine bodyPost_ret (v := .agg #[.bool br, .slice Ar nr cr]) (by simp [results, Tryz.results57, go_sem, kr0, kr1]) rfl ⟨_, rfl, zr.ret kr _ _, below_ret B0 (by omega) _ _⟩
set_option maxRecDepth 20000 in
set_option maxHeartbeats 1000000 in
theorem ineg_i {w : World} {v : Value} {z : Int} {k : Nat} (h : Iv w v z k) (hk : k ≤ 900) : Calls Tryz.prog 41 #[v] w (IEnd (-z) k w) := by
  obtain ⟨b, A, n, c, m, rfl, hm, hz⟩ := h
  have HZ : Hid (-z = sgn (!b) m) := by show _ = _; rw [hz]; exact (sgn_not b m).symm
  clear hz
  have B0 := below_a2 w (.cells #[.bool b, .slice A n c] 25) (.cells #[.bool false, .slice none 0 0] 25)
  have hm := hm.below B0
  have ka := ((Bx.new w (w.heap.size) (by simp) (.bool b) (.slice A n c)).below (below_alloc (w.alloc (.cells #[.bool b, .slice A n c] 25)) (.cells #[.bool false, .slice none 0 0] 25)))
  have kr := (Rx.new (w.alloc (.cells #[.bool b, .slice A n c] 25)) (w.heap.size + 1) (by simp))
  go_enter Tryz.func41, Tryz.ntmps41
  go_wp2_with fail
  have hm := hm.drew
  have ka := ka.drew
  have kr := kr.drew
  have B0 := b_drew B0
  go_region_held3 (fun w' => w'.cell? ⟨w.heap.size, 0, none⟩ = some (.bool b) ∧ w'.cell? ⟨w.heap.size, 1, none⟩ = some (.slice A n c)) (first | exact ⟨ka.1, ka.2⟩ | exact ⟨(ka.ret (r := w.heap.size + 1) (by omega) _ _).1, (ka.ret (r := w.heap.size + 1) (by omega) _ _).2⟩)
    (first
      | (go_at_call 54; (with_reducible refine (norm_n hm ?_).mono ?_); omega; rintro e w1 ⟨v1, rfl, z1, bb⟩; have hm := hm.below bb; have ka := ka.below bb; have kr := kr.below bb; have B0 := B0.trans (bb.mono B0.size); clear bb)
      | (go_at_call 77; (with_reducible refine (signed_i (!b) z1 _ HZ.out).mono ?_); rintro e w2 ⟨vr, rfl, zr, bb⟩; have ka := ka.below bb; have kr := kr.below bb; have B0 := B0.trans (bb.mono B0.size); clear bb; obtain ⟨br, Ar, nr, cr, rfl, zr⟩ := zr.cells; have kr0 := kr.1; have kr1 := kr.2.1; have kr2 := kr.2.2.1; have kr3 := kr.2.2.2))
  go_wp2
  refine bodyPost_ret (v := .agg #[.bool br, .slice Ar nr cr]) (by simp [results, Tryz.results41, go_sem, kr0, kr1]) rfl ⟨_, rfl, zr.ret kr _ _, below_ret B0 (by omega) _ _⟩
set_option maxRecDepth 20000 in
set_option maxHeartbeats 1000000 in
theorem imul_i {w : World} {v u : Value} {z y : Int} {k j : Nat} (h : Iv w v z k) (hu : Iv w u y j) (hk : k ≤ 400) (hj : j ≤ 400) : Calls Tryz.prog 44 #[v, u] w (IEnd (z * y) (k + j) w) := by
  obtain ⟨b, A, n, c, m, rfl, hm, hz⟩ := h
  obtain ⟨b', A', n', c', m', rfl, hm', hy⟩ := hu
  have HZ : Hid (z * y = sgn (!(b == b')) (m * m')) := by show _ = _; rw [hz, hy]; exact (sgn_mul b b' m m').symm
  clear hz hy
  have B0 := below_a3 w (.cells #[.bool b, .slice A n c] 25) (.cells #[.bool b', .slice A' n' c'] 25) (.cells #[.bool false, .slice none 0 0] 25)
  have hm := hm.below B0
  have hm' := hm'.below B0
  have ka := (((Bx.new w (w.heap.size) (by simp) (.bool b) (.slice A n c)).below (below_alloc (w.alloc (.cells #[.bool b, .slice A n c] 25)) (.cells #[.bool b', .slice A' n' c'] 25))).below (below_alloc ((w.alloc (.cells #[.bool b, .slice A n c] 25)).alloc (.cells #[.bool b', .slice A' n' c'] 25)) (.cells #[.bool false, .slice none 0 0] 25)))
  have kb := ((Bx.new (w.alloc (.cells #[.bool b, .slice A n c] 25)) (w.heap.size + 1) (by simp) (.bool b') (.slice A' n' c')).below (below_alloc ((w.alloc (.cells #[.bool b, .slice A n c] 25)).alloc (.cells #[.bool b', .slice A' n' c'] 25)) (.cells #[.bool false, .slice none 0 0] 25)))
  have kr := (Rx.new ((w.alloc (.cells #[.bool b, .slice A n c] 25)).alloc (.cells #[.bool b', .slice A' n' c'] 25)) (w.heap.size + 1 + 1) (by simp))
  go_enter Tryz.func44, Tryz.ntmps44
  go_wp2_with fail
  have hm := hm.drew
  have hm' := hm'.drew
  have ka := ka.drew
  have kb := kb.drew
  have kr := kr.drew
  have B0 := b_drew B0
  go_region_held3 (fun w' => w'.cell? ⟨w.heap.size, 0, none⟩ = some (.bool b) ∧ w'.cell? ⟨w.heap.size, 1, none⟩ = some (.slice A n c) ∧ w'.cell? ⟨w.heap.size + 1, 0, none⟩ = some (.bool b') ∧ w'.cell? ⟨w.heap.size + 1, 1, none⟩ = some (.slice A' n' c')) (first | exact ⟨ka.1, ka.2, kb.1, kb.2⟩ | exact ⟨(ka.ret (r := w.heap.size + 1 + 1) (by omega) _ _).1, (ka.ret (r := w.heap.size + 1 + 1) (by omega) _ _).2, (kb.ret (r := w.heap.size + 1 + 1) (by omega) _ _).1, (kb.ret (r := w.heap.size + 1 + 1) (by omega) _ _).2⟩)
    (first
      | (go_at_call 79; (with_reducible refine (mul_n hm hm' ?_ ?_).mono ?_); omega; omega; rintro e w1 ⟨v1, rfl, z1, bb⟩; have hm := hm.below bb; have hm' := hm'.below bb; have ka := ka.below bb; have kb := kb.below bb; have kr := kr.below bb; have B0 := B0.trans (bb.mono B0.size); clear bb)
      | (go_at_call 77; (with_reducible refine (signed_i (!(b == b')) z1 _ HZ.out).mono ?_); rintro e w2 ⟨vr, rfl, zr, bb⟩; have ka := ka.below bb; have kb := kb.below bb; have kr := kr.below bb; have B0 := B0.trans (bb.mono B0.size); clear bb; obtain ⟨br, Ar, nr, cr, rfl, zr⟩ := zr.cells; have kr0 := kr.1; have kr1 := kr.2.1; have kr2 := kr.2.2.1; have kr3 := kr.2.2.2))
  go_wp2
  refine bodyPost_ret (v := .agg #[.bool br, .slice Ar nr cr]) (by simp [results, Tryz.results44, go_sem, kr0, kr1]) rfl ⟨_, rfl, zr.ret kr _ _, below_ret B0 (by omega) _ _⟩
set_option maxRecDepth 20000 in
set_option maxHeartbeats 1000000 in
theorem iadd_same (b : Bool) {A A' : Option Addr} {n n' c c' m m' k j : Nat} {w : World} (hm : Nm w (.slice A n c) m k) (hm' : Nm w (.slice A' n' c') m' j) (hk : k ≤ 400) (hj : j ≤ 400) : Calls Tryz.prog 48 #[.agg #[.bool b, .slice A n c], .agg #[.bool b, .slice A' n' c']] w (IEnd (sgn b (m + m')) (max k j + 1) w) := by
  cases b
  · have B0 := below_a3 w (.cells #[.bool false, .slice A n c] 25) (.cells #[.bool false, .slice A' n' c'] 25) (.cells #[.bool false, .slice none 0 0] 25)
    have hm := hm.below B0
    have hm' := hm'.below B0
    have ka := (((Bx.new w (w.heap.size) (by simp) (.bool false) (.slice A n c)).below (below_alloc (w.alloc (.cells #[.bool false, .slice A n c] 25)) (.cells #[.bool false, .slice A' n' c'] 25))).below (below_alloc ((w.alloc (.cells #[.bool false, .slice A n c] 25)).alloc (.cells #[.bool false, .slice A' n' c'] 25)) (.cells #[.bool false, .slice none 0 0] 25)))
    have kb := ((Bx.new (w.alloc (.cells #[.bool false, .slice A n c] 25)) (w.heap.size + 1) (by simp) (.bool false) (.slice A' n' c')).below (below_alloc ((w.alloc (.cells #[.bool false, .slice A n c] 25)).alloc (.cells #[.bool false, .slice A' n' c'] 25)) (.cells #[.bool false, .slice none 0 0] 25)))
    have kr := (Rx.new ((w.alloc (.cells #[.bool false, .slice A n c] 25)).alloc (.cells #[.bool false, .slice A' n' c'] 25)) (w.heap.size + 1 + 1) (by simp))
    go_enter Tryz.func48, Tryz.ntmps48
    go_wp2_with fail
    have hm := hm.drew
    have hm' := hm'.drew
    have ka := ka.drew
    have kb := kb.drew
    have kr := kr.drew
    have B0 := b_drew B0
    go_region_held3 (fun w' => w'.cell? ⟨w.heap.size, 0, none⟩ = some (.bool false) ∧ w'.cell? ⟨w.heap.size, 1, none⟩ = some (.slice A n c) ∧ w'.cell? ⟨w.heap.size + 1, 0, none⟩ = some (.bool false) ∧ w'.cell? ⟨w.heap.size + 1, 1, none⟩ = some (.slice A' n' c')) (first | exact ⟨ka.1, ka.2, kb.1, kb.2⟩ | exact ⟨(ka.ret (r := w.heap.size + 1 + 1) (by omega) _ _).1, (ka.ret (r := w.heap.size + 1 + 1) (by omega) _ _).2, (kb.ret (r := w.heap.size + 1 + 1) (by omega) _ _).1, (kb.ret (r := w.heap.size + 1 + 1) (by omega) _ _).2⟩)
      (first
        | (go_at_call 55; (with_reducible refine (add_n hm hm' ?_ ?_).mono ?_); omega; omega; rintro e w1 ⟨v1, rfl, z1, bb⟩; have hm := hm.below bb; have hm' := hm'.below bb; have ka := ka.below bb; have kb := kb.below bb; have kr := kr.below bb; have B0 := B0.trans (bb.mono B0.size); clear bb)
        | (go_at_call 77; (with_reducible refine (signed_i false z1 _ rfl).mono ?_); rintro e w2 ⟨vr, rfl, zr, bb⟩; have ka := ka.below bb; have kb := kb.below bb; have kr := kr.below bb; have B0 := B0.trans (bb.mono B0.size); clear bb; obtain ⟨br, Ar, nr, cr, rfl, zr⟩ := zr.cells; have kr0 := kr.1; have kr1 := kr.2.1; have kr2 := kr.2.2.1; have kr3 := kr.2.2.2))
    go_wp2
    refine bodyPost_ret (v := .agg #[.bool br, .slice Ar nr cr]) (by simp [results, Tryz.results48, go_sem, kr0, kr1]) rfl ⟨_, rfl, zr.ret kr _ _, below_ret B0 (by omega) _ _⟩
  · have B0 := below_a3 w (.cells #[.bool true, .slice A n c] 25) (.cells #[.bool true, .slice A' n' c'] 25) (.cells #[.bool false, .slice none 0 0] 25)
    have hm := hm.below B0
    have hm' := hm'.below B0
    have ka := (((Bx.new w (w.heap.size) (by simp) (.bool true) (.slice A n c)).below (below_alloc (w.alloc (.cells #[.bool true, .slice A n c] 25)) (.cells #[.bool true, .slice A' n' c'] 25))).below (below_alloc ((w.alloc (.cells #[.bool true, .slice A n c] 25)).alloc (.cells #[.bool true, .slice A' n' c'] 25)) (.cells #[.bool false, .slice none 0 0] 25)))
    have kb := ((Bx.new (w.alloc (.cells #[.bool true, .slice A n c] 25)) (w.heap.size + 1) (by simp) (.bool true) (.slice A' n' c')).below (below_alloc ((w.alloc (.cells #[.bool true, .slice A n c] 25)).alloc (.cells #[.bool true, .slice A' n' c'] 25)) (.cells #[.bool false, .slice none 0 0] 25)))
    have kr := (Rx.new ((w.alloc (.cells #[.bool true, .slice A n c] 25)).alloc (.cells #[.bool true, .slice A' n' c'] 25)) (w.heap.size + 1 + 1) (by simp))
    go_enter Tryz.func48, Tryz.ntmps48
    go_wp2_with fail
    have hm := hm.drew
    have hm' := hm'.drew
    have ka := ka.drew
    have kb := kb.drew
    have kr := kr.drew
    have B0 := b_drew B0
    go_region_held3 (fun w' => w'.cell? ⟨w.heap.size, 0, none⟩ = some (.bool true) ∧ w'.cell? ⟨w.heap.size, 1, none⟩ = some (.slice A n c) ∧ w'.cell? ⟨w.heap.size + 1, 0, none⟩ = some (.bool true) ∧ w'.cell? ⟨w.heap.size + 1, 1, none⟩ = some (.slice A' n' c')) (first | exact ⟨ka.1, ka.2, kb.1, kb.2⟩ | exact ⟨(ka.ret (r := w.heap.size + 1 + 1) (by omega) _ _).1, (ka.ret (r := w.heap.size + 1 + 1) (by omega) _ _).2, (kb.ret (r := w.heap.size + 1 + 1) (by omega) _ _).1, (kb.ret (r := w.heap.size + 1 + 1) (by omega) _ _).2⟩)
      (first
        | (go_at_call 55; (with_reducible refine (add_n hm hm' ?_ ?_).mono ?_); omega; omega; rintro e w1 ⟨v1, rfl, z1, bb⟩; have hm := hm.below bb; have hm' := hm'.below bb; have ka := ka.below bb; have kb := kb.below bb; have kr := kr.below bb; have B0 := B0.trans (bb.mono B0.size); clear bb)
        | (go_at_call 77; (with_reducible refine (signed_i true z1 _ rfl).mono ?_); rintro e w2 ⟨vr, rfl, zr, bb⟩; have ka := ka.below bb; have kb := kb.below bb; have kr := kr.below bb; have B0 := B0.trans (bb.mono B0.size); clear bb; obtain ⟨br, Ar, nr, cr, rfl, zr⟩ := zr.cells; have kr0 := kr.1; have kr1 := kr.2.1; have kr2 := kr.2.2.1; have kr3 := kr.2.2.2))
    go_wp2
    refine bodyPost_ret (v := .agg #[.bool br, .slice Ar nr cr]) (by simp [results, Tryz.results48, go_sem, kr0, kr1]) rfl ⟨_, rfl, zr.ret kr _ _, below_ret B0 (by omega) _ _⟩
set_option maxRecDepth 20000 in
set_option maxHeartbeats 1000000 in
theorem iadd_ge (b : Bool) {A A' : Option Addr} {n n' c c' m m' k j : Nat} {w : World} (hm : Nm w (.slice A n c) m k) (hm' : Nm w (.slice A' n' c') m' j) (hk : k ≤ 400) (hj : j ≤ 400) (h : m' ≤ m) : Calls Tryz.prog 48 #[.agg #[.bool b, .slice A n c], .agg #[.bool (!b), .slice A' n' c']] w (IEnd (sgn b m + sgn (!b) m') (max k j + 1) w) := by
  have H := Lib.hid h
  clear h
  cases b
  · have B0 := below_a3 w (.cells #[.bool false, .slice A n c] 25) (.cells #[.bool true, .slice A' n' c'] 25) (.cells #[.bool false, .slice none 0 0] 25)
    have hm := hm.below B0
    have hm' := hm'.below B0
    have ka := (((Bx.new w (w.heap.size) (by simp) (.bool false) (.slice A n c)).below (below_alloc (w.alloc (.cells #[.bool false, .slice A n c] 25)) (.cells #[.bool true, .slice A' n' c'] 25))).below (below_alloc ((w.alloc (.cells #[.bool false, .slice A n c] 25)).alloc (.cells #[.bool true, .slice A' n' c'] 25)) (.cells #[.bool false, .slice none 0 0] 25)))
    have kb := ((Bx.new (w.alloc (.cells #[.bool false, .slice A n c] 25)) (w.heap.size + 1) (by simp) (.bool true) (.slice A' n' c')).below (below_alloc ((w.alloc (.cells #[.bool false, .slice A n c] 25)).alloc (.cells #[.bool true, .slice A' n' c'] 25)) (.cells #[.bool false, .slice none 0 0] 25)))
    have kr := (Rx.new ((w.alloc (.cells #[.bool false, .slice A n c] 25)).alloc (.cells #[.bool true, .slice A' n' c'] 25)) (w.heap.size + 1 + 1) (by simp))
    go_enter Tryz.func48, Tryz.ntmps48
    have ka0 := ka.1
    have ka1 := ka.2
    have kb0 := kb.1
    have kb1 := kb.2
    have kr0 := kr.1
    have kr1 := kr.2.1
    have kr2 := kr.2.2.1
    have kr3 := kr.2.2.2
    go_wp2_with fail
    refine (sub_n hm hm' (by omega) H.out).mono ?_
    clear ka0 ka1 kb0 kb1 kr0 kr1 kr2 kr3
    rintro e w1 ⟨v1, rfl, z1, bb⟩
    have hm := hm.below bb
    have hm' := hm'.below bb
    have ka := ka.below bb
    have kb := kb.below bb
    have kr := kr.below bb
    have B0 := B0.trans (bb.mono B0.size)
    clear bb
    have ka0 := ka.1
    have ka1 := ka.2
    have kb0 := kb.1
    have kb1 := kb.2
    have kr0 := kr.1
    have kr1 := kr.2.1
    have kr2 := kr.2.2.1
    have kr3 := kr.2.2.2
    go_wp2_with fail
    refine (signed_i false (z1.wide' (k' := max k j + 1) (by omega)) _ (sgn_ge false m m' H.out).symm).mono ?_
    clear ka0 ka1 kb0 kb1 kr0 kr1 kr2 kr3
    rintro e w2 ⟨vr, rfl, zr, bb⟩
    have ka := ka.below bb
    have kb := kb.below bb
    have kr := kr.below bb
    have B0 := B0.trans (bb.mono B0.size)
    clear bb
    obtain ⟨br, Ar, nr, cr, rfl, zr⟩ := zr.cells
    have ka0 := ka.1
    have ka1 := ka.2
    have kb0 := kb.1
    have kb1 := kb.2
    have kr0 := kr.1
    have kr1 := kr.2.1
    have kr2 := kr.2.2.1
    have kr3 := kr.2.2.2
    go_wp2
    refine bodyPost_ret (v := .agg #[.bool br, .slice Ar nr cr]) (by simp [results, Tryz.results48, go_sem, kr0, kr1]) rfl ⟨_, rfl, zr.ret kr _ _, below_ret B0 (by omega) _ _⟩
  · have B0 := below_a3 w (.cells #[.bool true, .slice A n c] 25) (.cells #[.bool false, .slice A' n' c'] 25) (.cells #[.bool false, .slice none 0 0] 25)
    have hm := hm.below B0
    have hm' := hm'.below B0
    have ka := (((Bx.new w (w.heap.size) (by simp) (.bool true) (.slice A n c)).below (below_alloc (w.alloc (.cells #[.bool true, .slice A n c] 25)) (.cells #[.bool false, .slice A' n' c'] 25))).below (below_alloc ((w.alloc (.cells #[.bool true, .slice A n c] 25)).alloc (.cells #[.bool false, .slice A' n' c'] 25)) (.cells #[.bool false, .slice none 0 0] 25)))
    have kb := ((Bx.new (w.alloc (.cells #[.bool true, .slice A n c] 25)) (w.heap.size + 1) (by simp) (.bool false) (.slice A' n' c')).below (below_alloc ((w.alloc (.cells #[.bool true, .slice A n c] 25)).alloc (.cells #[.bool false, .slice A' n' c'] 25)) (.cells #[.bool false, .slice none 0 0] 25)))
    have kr := (Rx.new ((w.alloc (.cells #[.bool true, .slice A n c] 25)).alloc (.cells #[.bool false, .slice A' n' c'] 25)) (w.heap.size + 1 + 1) (by simp))
    go_enter Tryz.func48, Tryz.ntmps48
    have ka0 := ka.1
    have ka1 := ka.2
    have kb0 := kb.1
    have kb1 := kb.2
    have kr0 := kr.1
    have kr1 := kr.2.1
    have kr2 := kr.2.2.1
    have kr3 := kr.2.2.2
    go_wp2_with fail
    refine (sub_n hm hm' (by omega) H.out).mono ?_
    clear ka0 ka1 kb0 kb1 kr0 kr1 kr2 kr3
    rintro e w1 ⟨v1, rfl, z1, bb⟩
    have hm := hm.below bb
    have hm' := hm'.below bb
    have ka := ka.below bb
    have kb := kb.below bb
    have kr := kr.below bb
    have B0 := B0.trans (bb.mono B0.size)
    clear bb
    have ka0 := ka.1
    have ka1 := ka.2
    have kb0 := kb.1
    have kb1 := kb.2
    have kr0 := kr.1
    have kr1 := kr.2.1
    have kr2 := kr.2.2.1
    have kr3 := kr.2.2.2
    go_wp2_with fail
    refine (signed_i true (z1.wide' (k' := max k j + 1) (by omega)) _ (sgn_ge true m m' H.out).symm).mono ?_
    clear ka0 ka1 kb0 kb1 kr0 kr1 kr2 kr3
    rintro e w2 ⟨vr, rfl, zr, bb⟩
    have ka := ka.below bb
    have kb := kb.below bb
    have kr := kr.below bb
    have B0 := B0.trans (bb.mono B0.size)
    clear bb
    obtain ⟨br, Ar, nr, cr, rfl, zr⟩ := zr.cells
    have ka0 := ka.1
    have ka1 := ka.2
    have kb0 := kb.1
    have kb1 := kb.2
    have kr0 := kr.1
    have kr1 := kr.2.1
    have kr2 := kr.2.2.1
    have kr3 := kr.2.2.2
    go_wp2
    refine bodyPost_ret (v := .agg #[.bool br, .slice Ar nr cr]) (by simp [results, Tryz.results48, go_sem, kr0, kr1]) rfl ⟨_, rfl, zr.ret kr _ _, below_ret B0 (by omega) _ _⟩
set_option maxRecDepth 20000 in
set_option maxHeartbeats 1000000 in
theorem iadd_lt (b : Bool) {A A' : Option Addr} {n n' c c' m m' k j : Nat} {w : World} (hm : Nm w (.slice A n c) m k) (hm' : Nm w (.slice A' n' c') m' j) (hk : k ≤ 400) (hj : j ≤ 400) (h : m < m') : Calls Tryz.prog 48 #[.agg #[.bool b, .slice A n c], .agg #[.bool (!b), .slice A' n' c']] w (IEnd (sgn b m + sgn (!b) m') (max k j + 1) w) := by
  have H := Lib.hid h
  clear h
  cases b
  · have B0 := below_a3 w (.cells #[.bool false, .slice A n c] 25) (.cells #[.bool true, .slice A' n' c'] 25) (.cells #[.bool false, .slice none 0 0] 25)
    have hm := hm.below B0
    have hm' := hm'.below B0
    have ka := (((Bx.new w (w.heap.size) (by simp) (.bool false) (.slice A n c)).below (below_alloc (w.alloc (.cells #[.bool false, .slice A n c] 25)) (.cells #[.bool true, .slice A' n' c'] 25))).below (below_alloc ((w.alloc (.cells #[.bool false, .slice A n c] 25)).alloc (.cells #[.bool true, .slice A' n' c'] 25)) (.cells #[.bool false, .slice none 0 0] 25)))
    have kb := ((Bx.new (w.alloc (.cells #[.bool false, .slice A n c] 25)) (w.heap.size + 1) (by simp) (.bool true) (.slice A' n' c')).below (below_alloc ((w.alloc (.cells #[.bool false, .slice A n c] 25)).alloc (.cells #[.bool true, .slice A' n' c'] 25)) (.cells #[.bool false, .slice none 0 0] 25)))
    have kr := (Rx.new ((w.alloc (.cells #[.bool false, .slice A n c] 25)).alloc (.cells #[.bool true, .slice A' n' c'] 25)) (w.heap.size + 1 + 1) (by simp))
    go_enter Tryz.func48, Tryz.ntmps48
    have ka0 := ka.1
    have ka1 := ka.2
    have kb0 := kb.1
    have kb1 := kb.2
    have kr0 := kr.1
    have kr1 := kr.2.1
    have kr2 := kr.2.2.1
    have kr3 := kr.2.2.2
    go_wp2_with fail
    refine (sub_n0 hm hm' H.out).mono ?_
    clear ka0 ka1 kb0 kb1 kr0 kr1 kr2 kr3
    rintro e w1 ⟨rfl, bb⟩
    have hm := hm.below bb
    have hm' := hm'.below bb
    have ka := ka.below bb
    have kb := kb.below bb
    have kr := kr.below bb
    have B0 := B0.trans (bb.mono B0.size)
    clear bb
    have ka0 := ka.1
    have ka1 := ka.2
    have kb0 := kb.1
    have kb1 := kb.2
    have kr0 := kr.1
    have kr1 := kr.2.1
    have kr2 := kr.2.2.1
    have kr3 := kr.2.2.2
    go_wp2_with fail
    refine (sub_n hm' hm (by omega) (Nat.le_of_lt H.out)).mono ?_
    clear ka0 ka1 kb0 kb1 kr0 kr1 kr2 kr3
    rintro e w2 ⟨v1, rfl, z1, bb⟩
    have hm := hm.below bb
    have hm' := hm'.below bb
    have ka := ka.below bb
    have kb := kb.below bb
    have kr := kr.below bb
    have B0 := B0.trans (bb.mono B0.size)
    clear bb
    have ka0 := ka.1
    have ka1 := ka.2
    have kb0 := kb.1
    have kb1 := kb.2
    have kr0 := kr.1
    have kr1 := kr.2.1
    have kr2 := kr.2.2.1
    have kr3 := kr.2.2.2
    go_wp2_with fail
    refine (signed_i true (z1.wide' (k' := max k j + 1) (by omega)) _ (sgn_lt false m m' H.out).symm).mono ?_
    clear ka0 ka1 kb0 kb1 kr0 kr1 kr2 kr3
    rintro e w3 ⟨vr, rfl, zr, bb⟩
    have ka := ka.below bb
    have kb := kb.below bb
    have kr := kr.below bb
    have B0 := B0.trans (bb.mono B0.size)
    clear bb
    obtain ⟨br, Ar, nr, cr, rfl, zr⟩ := zr.cells
    have ka0 := ka.1
    have ka1 := ka.2
    have kb0 := kb.1
    have kb1 := kb.2
    have kr0 := kr.1
    have kr1 := kr.2.1
    have kr2 := kr.2.2.1
    have kr3 := kr.2.2.2
    go_wp2
    refine bodyPost_ret (v := .agg #[.bool br, .slice Ar nr cr]) (by simp [results, Tryz.results48, go_sem, kr0, kr1]) rfl ⟨_, rfl, zr.ret kr _ _, below_ret B0 (by omega) _ _⟩
  · have B0 := below_a3 w (.cells #[.bool true, .slice A n c] 25) (.cells #[.bool false, .slice A' n' c'] 25) (.cells #[.bool false, .slice none 0 0] 25)
    have hm := hm.below B0
    have hm' := hm'.below B0
    have ka := (((Bx.new w (w.heap.size) (by simp) (.bool true) (.slice A n c)).below (below_alloc (w.alloc (.cells #[.bool true, .slice A n c] 25)) (.cells #[.bool false, .slice A' n' c'] 25))).below (below_alloc ((w.alloc (.cells #[.bool true, .slice A n c] 25)).alloc (.cells #[.bool false, .slice A' n' c'] 25)) (.cells #[.bool false, .slice none 0 0] 25)))
    have kb := ((Bx.new (w.alloc (.cells #[.bool true, .slice A n c] 25)) (w.heap.size + 1) (by simp) (.bool false) (.slice A' n' c')).below (below_alloc ((w.alloc (.cells #[.bool true, .slice A n c] 25)).alloc (.cells #[.bool false, .slice A' n' c'] 25)) (.cells #[.bool false, .slice none 0 0] 25)))
    have kr := (Rx.new ((w.alloc (.cells #[.bool true, .slice A n c] 25)).alloc (.cells #[.bool false, .slice A' n' c'] 25)) (w.heap.size + 1 + 1) (by simp))
    go_enter Tryz.func48, Tryz.ntmps48
    have ka0 := ka.1
    have ka1 := ka.2
    have kb0 := kb.1
    have kb1 := kb.2
    have kr0 := kr.1
    have kr1 := kr.2.1
    have kr2 := kr.2.2.1
    have kr3 := kr.2.2.2
    go_wp2_with fail
    refine (sub_n0 hm hm' H.out).mono ?_
    clear ka0 ka1 kb0 kb1 kr0 kr1 kr2 kr3
    rintro e w1 ⟨rfl, bb⟩
    have hm := hm.below bb
    have hm' := hm'.below bb
    have ka := ka.below bb
    have kb := kb.below bb
    have kr := kr.below bb
    have B0 := B0.trans (bb.mono B0.size)
    clear bb
    have ka0 := ka.1
    have ka1 := ka.2
    have kb0 := kb.1
    have kb1 := kb.2
    have kr0 := kr.1
    have kr1 := kr.2.1
    have kr2 := kr.2.2.1
    have kr3 := kr.2.2.2
    go_wp2_with fail
    refine (sub_n hm' hm (by omega) (Nat.le_of_lt H.out)).mono ?_
    clear ka0 ka1 kb0 kb1 kr0 kr1 kr2 kr3
    rintro e w2 ⟨v1, rfl, z1, bb⟩
    have hm := hm.below bb
    have hm' := hm'.below bb
    have ka := ka.below bb
    have kb := kb.below bb
    have kr := kr.below bb
    have B0 := B0.trans (bb.mono B0.size)
    clear bb
    have ka0 := ka.1
    have ka1 := ka.2
    have kb0 := kb.1
    have kb1 := kb.2
    have kr0 := kr.1
    have kr1 := kr.2.1
    have kr2 := kr.2.2.1
    have kr3 := kr.2.2.2
    go_wp2_with fail
    refine (signed_i false (z1.wide' (k' := max k j + 1) (by omega)) _ (sgn_lt true m m' H.out).symm).mono ?_
    clear ka0 ka1 kb0 kb1 kr0 kr1 kr2 kr3
    rintro e w3 ⟨vr, rfl, zr, bb⟩
    have ka := ka.below bb
    have kb := kb.below bb
    have kr := kr.below bb
    have B0 := B0.trans (bb.mono B0.size)
    clear bb
    obtain ⟨br, Ar, nr, cr, rfl, zr⟩ := zr.cells
    have ka0 := ka.1
    have ka1 := ka.2
    have kb0 := kb.1
    have kb1 := kb.2
    have kr0 := kr.1
    have kr1 := kr.2.1
    have kr2 := kr.2.2.1
    have kr3 := kr.2.2.2
    go_wp2
    refine bodyPost_ret (v := .agg #[.bool br, .slice Ar nr cr]) (by simp [results, Tryz.results48, go_sem, kr0, kr1]) rfl ⟨_, rfl, zr.ret kr _ _, below_ret B0 (by omega) _ _⟩
theorem iadd_i {w : World} {v u : Value} {z y : Int} {k j : Nat} (h : Iv w v z k) (hu : Iv w u y j) (hk : k ≤ 400) (hj : j ≤ 400) : Calls Tryz.prog 48 #[v, u] w (IEnd (z + y) (max k j + 1) w) := by
  obtain ⟨b, A, n, c, m, rfl, hm, rfl⟩ := h
  obtain ⟨b', A', n', c', m', rfl, hm', rfl⟩ := hu
  by_cases e : b' = b
  · subst e
    rw [← sgn_add]
    exact iadd_same b' hm hm' hk hj
  · obtain rfl : b' = !b := by cases b <;> cases b' <;> simp_all
    rcases Nat.lt_or_ge m m' with h | h
    · exact iadd_lt b hm hm' hk hj h
    · exact iadd_ge b hm hm' hk hj h
set_option maxRecDepth 20000 in
set_option maxHeartbeats 1000000 in
theorem isub_i {w : World} {v u : Value} {z y : Int} {k j : Nat} (h : Iv w v z k) (hu : Iv w u y j) (hk : k ≤ 400) (hj : j ≤ 400) : Calls Tryz.prog 49 #[v, u] w (IEnd (z - y) (max k j + 1) w) := by
  obtain ⟨b, A, n, c, m, rfl, hm, hz⟩ := h
  obtain ⟨b', A', n', c', m', rfl, hm', hy⟩ := hu
  have h : Iv w (.agg #[.bool b, .slice A n c]) z k := ⟨b, A, n, c, m, rfl, hm, hz⟩
  have hu : Iv w (.agg #[.bool (!b'), .slice A' n' c']) (-y) j := ⟨!b', A', n', c', m', rfl, hm', by rw [sgn_not, hy]⟩
  have HZ : Hid (z - y = z + -y) := by show _ = _; omega
  clear hz hy hm hm'
  rw [HZ.out]
  clear HZ
  have B0 := below_a3 w (.cells #[.bool b, .slice A n c] 25) (.cells #[.bool b', .slice A' n' c'] 25) (.cells #[.bool false, .slice none 0 0] 25)
  have h := h.below B0
  have hu := hu.below B0
  have ka := (((Bx.new w (w.heap.size) (by simp) (.bool b) (.slice A n c)).below (below_alloc (w.alloc (.cells #[.bool b, .slice A n c] 25)) (.cells #[.bool b', .slice A' n' c'] 25))).below (below_alloc ((w.alloc (.cells #[.bool b, .slice A n c] 25)).alloc (.cells #[.bool b', .slice A' n' c'] 25)) (.cells #[.bool false, .slice none 0 0] 25)))
  have kb := ((Bx.new (w.alloc (.cells #[.bool b, .slice A n c] 25)) (w.heap.size + 1) (by simp) (.bool b') (.slice A' n' c')).below (below_alloc ((w.alloc (.cells #[.bool b, .slice A n c] 25)).alloc (.cells #[.bool b', .slice A' n' c'] 25)) (.cells #[.bool false, .slice none 0 0] 25)))
  have kr := (Rx.new ((w.alloc (.cells #[.bool b, .slice A n c] 25)).alloc (.cells #[.bool b', .slice A' n' c'] 25)) (w.heap.size + 1 + 1) (by simp))
  go_enter Tryz.func49, Tryz.ntmps49
  have ka0 := ka.1
  have ka1 := ka.2
  have kb0 := kb.1
  have kb1 := kb.2
  have kr0 := kr.1
  have kr1 := kr.2.1
  have kr2 := kr.2.2.1
  have kr3 := kr.2.2.2
  go_wp2_with fail
  refine (iadd_i h hu hk hj).mono ?_
  clear ka0 ka1 kb0 kb1 kr0 kr1 kr2 kr3
  rintro e w1 ⟨vr, rfl, zr, bb⟩
  have h := h.below bb
  have hu := hu.below bb
  have ka := ka.below bb
  have kb := kb.below bb
  have kr := kr.below bb
  have B0 := B0.trans (bb.mono B0.size)
  clear bb
  obtain ⟨br, Ar, nr, cr, rfl, zr⟩ := zr.cells
  have ka0 := ka.1
  have ka1 := ka.2
  have kb0 := kb.1
  have kb1 := kb.2
  have kr0 := kr.1
  have kr1 := kr.2.1
  have kr2 := kr.2.2.1
  have kr3 := kr.2.2.2
  go_wp2
  refine bodyPost_ret (v := .agg #[.bool br, .slice Ar nr cr]) (by simp [results, Tryz.results49, go_sem, kr0, kr1]) rfl ⟨_, rfl, zr.ret kr _ _, below_ret B0 (by omega) _ _⟩
end Go.Proofs.YtohlilgnognmgaaGreatDoor
/-
  The walks of integer.order, sign, Cmp and Text.
-/
namespace Go.Proofs.YtohlilgnognmgaaGreatDoor
open Go.RowKit
attribute [local go_sem ↓] Go.wp_at_zero Go.wp_at_succ
set_option linter.unusedVariables false

theorem order_true (w : World) : Calls Tryz.prog 73 #[.bool true] w fun e w' => e = .returned (.int .i64 1) ∧ w = w' := by
  go_enter Tryz.func73, Tryz.ntmps73
  go_wp2
  go_ret
  exact ⟨rfl, rfl⟩
theorem order_false (w : World) : Calls Tryz.prog 73 #[.bool false] w fun e w' => e = .returned (.int .i64 (-1)) ∧ w = w' := by
  go_enter Tryz.func73, Tryz.ntmps73
  go_wp2
  go_ret
  exact ⟨rfl, rfl⟩
theorem order_any (b : Bool) (w : World) : Calls Tryz.prog 73 #[.bool b] w fun e w' => e = .returned (.int .i64 (signI b)) ∧ Below w.heap.size w w' := by
  cases b
  · exact (order_false w).mono fun _ _ ⟨h, e⟩ => ⟨h, e ▸ Below.refl _ _⟩
  · exact (order_true w).mono fun _ _ ⟨h, e⟩ => ⟨h, e ▸ Below.refl _ _⟩
/-- The sign of an integer. -/
def sgI (z : Int) : Int := if z < 0 then -1 else if z = 0 then 0 else 1
theorem Nm.iv {w : World} {A : Option Addr} {n c m k : Nat} (h : Nm w (.slice A n c) m k) (b : Bool) : Iv w (.agg #[.bool b, .slice A n c]) (sgn b m) k := ⟨b, A, n, c, m, rfl, h, rfl⟩
theorem sgI_cases (z : Int) : (z < 0 ∧ sgI z = -1) ∨ (z = 0 ∧ sgI z = 0) ∨ (0 < z ∧ sgI z = 1) := by
  unfold sgI
  repeat' split
  all_goals omega
def cmpZ (z y : Int) : Int := if z < y then -1 else if z = y then 0 else 1
theorem cmpZ_cases (z y : Int) : (z < y ∧ cmpZ z y = -1) ∨ (z = y ∧ cmpZ z y = 0) ∨ (y < z ∧ cmpZ z y = 1) := by
  unfold cmpZ
  repeat' split
  all_goals omega
theorem cmpI_cases (a b : Nat) : (a < b ∧ cmpI a b = -1) ∨ (a = b ∧ cmpI a b = 0) ∨ (b < a ∧ cmpI a b = 1) := by
  unfold cmpI
  repeat' split
  all_goals omega
theorem signI_cases (p : Prop) [Decidable p] : (p ∧ signI (decide p) = 1) ∨ (¬p ∧ signI (decide p) = -1) := by
  by_cases h : p
  · exact .inl ⟨h, signI_true (decide_eq_true h)⟩
  · exact .inr ⟨h, signI_false (decide_eq_false h)⟩
def I64End (c : Int) (w : World) (e : Ending) (w' : World) : Prop := e = .returned (.int .i64 c) ∧ Below w.heap.size w w'
theorem sgI_zero (b : Bool) : sgI (sgn b 0) = 0 := by cases b <;> rfl
theorem sgI_pos (b : Bool) (m : Nat) (h : 0 < m) : sgI (sgn b m) = signI (!b) := by
  cases b
  · rw [sgn_false]; unfold sgI; rw [if_neg (by omega), if_neg (by omega)]; rfl
  · rw [sgn_true]; unfold sgI; rw [if_pos (by omega)]; rfl
set_option maxRecDepth 20000 in
set_option maxHeartbeats 1000000 in
theorem isign_0 (b : Bool) {A : Option Addr} {n c k : Nat} {w : World} (hm : Nm w (.slice A n c) 0 k) : Calls Tryz.prog 72 #[.agg #[.bool b, .slice A n c]] w (I64End 0 w) := by
  have B0 := below_a1 w (.cells #[.bool b, .slice A n c] 25)
  have hm := hm.below B0
  have ka := (Bx.new w (w.heap.size) (by simp) (.bool b) (.slice A n c))
  go_enter Tryz.func72, Tryz.ntmps72
  have ka0 := ka.1
  have ka1 := ka.2
  go_wp2_with fail
  refine (cmp_n hm (Nm.nil _) 0 (by rfl)).mono ?_
  clear ka0 ka1
  rintro e w1 ⟨rfl, bb⟩
  have hm := hm.below bb
  have ka := ka.below bb
  have B0 := B0.trans (bb.mono B0.size)
  clear bb
  go_wp2
  go_ret
  exact ⟨rfl, B0⟩
set_option maxRecDepth 20000 in
set_option maxHeartbeats 1000000 in
theorem isign_p (b : Bool) {A : Option Addr} {n c m k : Nat} {w : World} (hm : Nm w (.slice A n c) m k) (h : 0 < m) : Calls Tryz.prog 72 #[.agg #[.bool b, .slice A n c]] w (I64End (signI (!b)) w) := by
  have H := Lib.hid h
  clear h
  have B0 := below_a1 w (.cells #[.bool b, .slice A n c] 25)
  have hm := hm.below B0
  have ka := (Bx.new w (w.heap.size) (by simp) (.bool b) (.slice A n c))
  go_enter Tryz.func72, Tryz.ntmps72
  have ka0 := ka.1
  have ka1 := ka.2
  go_wp2_with fail
  refine (cmp_n hm (Nm.nil _) 1 (cmpI_gt H.out)).mono ?_
  clear ka0 ka1
  rintro e w1 ⟨rfl, bb⟩
  have hm := hm.below bb
  have ka := ka.below bb
  have B0 := B0.trans (bb.mono B0.size)
  clear bb
  have ka0 := ka.1
  have ka1 := ka.2
  go_wp2_with fail
  refine (order_any (!b) _).mono ?_
  clear ka0 ka1
  rintro e w2 ⟨rfl, bb⟩
  have hm := hm.below bb
  have ka := ka.below bb
  have B0 := B0.trans (bb.mono B0.size)
  clear bb
  go_wp2
  go_ret
  exact ⟨rfl, B0⟩
theorem isign_i {w : World} {v : Value} {z : Int} {k : Nat} (h : Iv w v z k) (c : Int) (hc : sgI z = c) : Calls Tryz.prog 72 #[v] w (I64End c w) := by
  obtain ⟨b, A, n, c', m, rfl, hm, rfl⟩ := h
  subst hc
  rcases Nat.eq_zero_or_pos m with h | h
  · subst h
    rw [sgI_zero]
    exact isign_0 b hm
  · rw [sgI_pos b m h]
    exact isign_p b hm h
set_option maxRecDepth 20000 in
set_option maxHeartbeats 1000000 in
theorem icmp_ne {w : World} {b b' : Bool} {A A' : Option Addr} {n n' c c' m m' k j : Nat} (hm : Nm w (.slice A n c) m k) (hm' : Nm w (.slice A' n' c') m' j) (s t : Int) (hne : (s != t) = true) (hs : sgI (sgn b m) = s) (ht : sgI (sgn b' m') = t) : Calls Tryz.prog 37 #[.agg #[.bool b, .slice A n c], .agg #[.bool b', .slice A' n' c']] w (I64End (signI (decide (t < s))) w) := by
  have Hs := Lib.hid hs
  have Ht := Lib.hid ht
  clear hs ht
  have B0 := below_a2 w (.cells #[.bool b, .slice A n c] 25) (.cells #[.bool b', .slice A' n' c'] 25)
  have hm := hm.below B0
  have hm' := hm'.below B0
  have ka := ((Bx.new w (w.heap.size) (by simp) (.bool b) (.slice A n c)).below (below_alloc (w.alloc (.cells #[.bool b, .slice A n c] 25)) (.cells #[.bool b', .slice A' n' c'] 25)))
  have kb := (Bx.new (w.alloc (.cells #[.bool b, .slice A n c] 25)) (w.heap.size + 1) (by simp) (.bool b') (.slice A' n' c'))
  go_enter Tryz.func37, Tryz.ntmps37
  go_wp2_with fail
  have hm := hm.drew
  have hm' := hm'.drew
  have ka := ka.drew
  have kb := kb.drew
  have B0 := b_drew B0
  go_region_held3 (fun w' => w'.cell? ⟨w.heap.size, 0, none⟩ = some (.bool b) ∧ w'.cell? ⟨w.heap.size, 1, none⟩ = some (.slice A n c) ∧ w'.cell? ⟨w.heap.size + 1, 0, none⟩ = some (.bool b') ∧ w'.cell? ⟨w.heap.size + 1, 1, none⟩ = some (.slice A' n' c')) (first | exact ⟨ka.1, ka.2, kb.1, kb.2⟩)
    (first
      | (go_at_call 72; (with_reducible refine (isign_i (hm.iv b) _ Hs.out).mono ?_); rintro e w1 ⟨rfl, bb⟩; have hm := hm.below bb; have hm' := hm'.below bb; have ka := ka.below bb; have kb := kb.below bb; have B0 := B0.trans (bb.mono B0.size); clear bb)
      | (go_at_call 72; (with_reducible refine (isign_i (hm'.iv b') _ Ht.out).mono ?_); rintro e w2 ⟨rfl, bb⟩; have hm := hm.below bb; have hm' := hm'.below bb; have ka := ka.below bb; have kb := kb.below bb; have B0 := B0.trans (bb.mono B0.size); clear bb))
  have ka0 := ka.1
  have ka1 := ka.2
  have kb0 := kb.1
  have kb1 := kb.2
  go_wp2_with fail
  refine (order_any _ _).mono ?_
  clear ka0 ka1 kb0 kb1
  rintro e w10 ⟨rfl, bb⟩
  have hm := hm.below bb
  have hm' := hm'.below bb
  have ka := ka.below bb
  have kb := kb.below bb
  have B0 := B0.trans (bb.mono B0.size)
  clear bb
  go_wp2
  go_ret
  exact ⟨rfl, B0⟩
set_option maxRecDepth 20000 in
set_option maxHeartbeats 1000000 in
theorem icmp_eq_false {w : World} {b' : Bool} {A A' : Option Addr} {n n' c c' m m' k j : Nat} (hm : Nm w (.slice A n c) m k) (hm' : Nm w (.slice A' n' c') m' j) (s : Int) (hs : sgI (sgn false m) = s) (ht : sgI (sgn b' m') = s) : Calls Tryz.prog 37 #[.agg #[.bool false, .slice A n c], .agg #[.bool b', .slice A' n' c']] w (I64End (cmpI m m') w) := by
  have Hs := Lib.hid hs
  have Ht := Lib.hid ht
  clear hs ht
  have hne : (s != s) = false := by simp
  have B0 := below_a2 w (.cells #[.bool false, .slice A n c] 25) (.cells #[.bool b', .slice A' n' c'] 25)
  have hm := hm.below B0
  have hm' := hm'.below B0
  have ka := ((Bx.new w (w.heap.size) (by simp) (.bool false) (.slice A n c)).below (below_alloc (w.alloc (.cells #[.bool false, .slice A n c] 25)) (.cells #[.bool b', .slice A' n' c'] 25)))
  have kb := (Bx.new (w.alloc (.cells #[.bool false, .slice A n c] 25)) (w.heap.size + 1) (by simp) (.bool b') (.slice A' n' c'))
  go_enter Tryz.func37, Tryz.ntmps37
  go_wp2_with fail
  have hm := hm.drew
  have hm' := hm'.drew
  have ka := ka.drew
  have kb := kb.drew
  have B0 := b_drew B0
  go_region_held3 (fun w' => w'.cell? ⟨w.heap.size, 0, none⟩ = some (.bool false) ∧ w'.cell? ⟨w.heap.size, 1, none⟩ = some (.slice A n c) ∧ w'.cell? ⟨w.heap.size + 1, 0, none⟩ = some (.bool b') ∧ w'.cell? ⟨w.heap.size + 1, 1, none⟩ = some (.slice A' n' c')) (first | exact ⟨ka.1, ka.2, kb.1, kb.2⟩)
    (first
      | (go_at_call 72; (with_reducible refine (isign_i (hm.iv false) _ Hs.out).mono ?_); rintro e w1 ⟨rfl, bb⟩; have hm := hm.below bb; have hm' := hm'.below bb; have ka := ka.below bb; have kb := kb.below bb; have B0 := B0.trans (bb.mono B0.size); clear bb)
      | (go_at_call 72; (with_reducible refine (isign_i (hm'.iv b') _ Ht.out).mono ?_); rintro e w2 ⟨rfl, bb⟩; have hm := hm.below bb; have hm' := hm'.below bb; have ka := ka.below bb; have kb := kb.below bb; have B0 := B0.trans (bb.mono B0.size); clear bb))
  have ka0 := ka.1
  have ka1 := ka.2
  have kb0 := kb.1
  have kb1 := kb.2
  go_wp2_with fail
  refine (cmp_n hm hm' _ rfl).mono ?_
  clear ka0 ka1 kb0 kb1
  rintro e w10 ⟨rfl, bb⟩
  have hm := hm.below bb
  have hm' := hm'.below bb
  have ka := ka.below bb
  have kb := kb.below bb
  have B0 := B0.trans (bb.mono B0.size)
  clear bb
  go_wp2
  go_ret
  exact ⟨rfl, B0⟩
set_option maxRecDepth 20000 in
set_option maxHeartbeats 1000000 in
theorem icmp_eq_true {w : World} {b' : Bool} {A A' : Option Addr} {n n' c c' m m' k j : Nat} (hm : Nm w (.slice A n c) m k) (hm' : Nm w (.slice A' n' c') m' j) (s : Int) (hs : sgI (sgn true m) = s) (ht : sgI (sgn b' m') = s) : Calls Tryz.prog 37 #[.agg #[.bool true, .slice A n c], .agg #[.bool b', .slice A' n' c']] w (I64End (cmpI m' m) w) := by
  have Hs := Lib.hid hs
  have Ht := Lib.hid ht
  clear hs ht
  have hne : (s != s) = false := by simp
  have B0 := below_a2 w (.cells #[.bool true, .slice A n c] 25) (.cells #[.bool b', .slice A' n' c'] 25)
  have hm := hm.below B0
  have hm' := hm'.below B0
  have ka := ((Bx.new w (w.heap.size) (by simp) (.bool true) (.slice A n c)).below (below_alloc (w.alloc (.cells #[.bool true, .slice A n c] 25)) (.cells #[.bool b', .slice A' n' c'] 25)))
  have kb := (Bx.new (w.alloc (.cells #[.bool true, .slice A n c] 25)) (w.heap.size + 1) (by simp) (.bool b') (.slice A' n' c'))
  go_enter Tryz.func37, Tryz.ntmps37
  go_wp2_with fail
  have hm := hm.drew
  have hm' := hm'.drew
  have ka := ka.drew
  have kb := kb.drew
  have B0 := b_drew B0
  go_region_held3 (fun w' => w'.cell? ⟨w.heap.size, 0, none⟩ = some (.bool true) ∧ w'.cell? ⟨w.heap.size, 1, none⟩ = some (.slice A n c) ∧ w'.cell? ⟨w.heap.size + 1, 0, none⟩ = some (.bool b') ∧ w'.cell? ⟨w.heap.size + 1, 1, none⟩ = some (.slice A' n' c')) (first | exact ⟨ka.1, ka.2, kb.1, kb.2⟩)
    (first
      | (go_at_call 72; (with_reducible refine (isign_i (hm.iv true) _ Hs.out).mono ?_); rintro e w1 ⟨rfl, bb⟩; have hm := hm.below bb; have hm' := hm'.below bb; have ka := ka.below bb; have kb := kb.below bb; have B0 := B0.trans (bb.mono B0.size); clear bb)
      | (go_at_call 72; (with_reducible refine (isign_i (hm'.iv b') _ Ht.out).mono ?_); rintro e w2 ⟨rfl, bb⟩; have hm := hm.below bb; have hm' := hm'.below bb; have ka := ka.below bb; have kb := kb.below bb; have B0 := B0.trans (bb.mono B0.size); clear bb))
  have ka0 := ka.1
  have ka1 := ka.2
  have kb0 := kb.1
  have kb1 := kb.2
  go_wp2_with fail
  refine (cmp_n hm' hm _ rfl).mono ?_
  clear ka0 ka1 kb0 kb1
  rintro e w10 ⟨rfl, bb⟩
  have hm := hm.below bb
  have hm' := hm'.below bb
  have ka := ka.below bb
  have kb := kb.below bb
  have B0 := B0.trans (bb.mono B0.size)
  clear bb
  go_wp2
  go_ret
  exact ⟨rfl, B0⟩
theorem icmp_i {w : World} {v u : Value} {z y : Int} {k j : Nat} (h : Iv w v z k) (hu : Iv w u y j) (c : Int) (hc : cmpZ z y = c) : Calls Tryz.prog 37 #[v, u] w (I64End c w) := by
  obtain ⟨b, A, n, d, m, rfl, hm, rfl⟩ := h
  obtain ⟨b', A', n', d', m', rfl, hm', rfl⟩ := hu
  subst hc
  by_cases e : sgI (sgn b m) = sgI (sgn b' m')
  · cases b
    · have e' : cmpZ (sgn false m) (sgn b' m') = cmpI m m' := by
        have h1 := sgI_cases (sgn false m)
        have h2 := sgI_cases (sgn b' m')
        have h3 := cmpZ_cases (sgn false m) (sgn b' m')
        have h4 := cmpI_cases m m'
        cases b' <;> simp only [sgn_true, sgn_false] at * <;> omega
      rw [e']
      exact icmp_eq_false hm hm' _ e rfl
    · have e' : cmpZ (sgn true m) (sgn b' m') = cmpI m' m := by
        have h1 := sgI_cases (sgn true m)
        have h2 := sgI_cases (sgn b' m')
        have h3 := cmpZ_cases (sgn true m) (sgn b' m')
        have h4 := cmpI_cases m' m
        cases b' <;> simp only [sgn_true, sgn_false] at * <;> omega
      rw [e']
      exact icmp_eq_true hm hm' _ e rfl
  · have e' : cmpZ (sgn b m) (sgn b' m') = signI (decide (sgI (sgn b' m') < sgI (sgn b m))) := by
      have h1 := sgI_cases (sgn b m)
      have h2 := sgI_cases (sgn b' m')
      have h3 := cmpZ_cases (sgn b m) (sgn b' m')
      have h4 := signI_cases (sgI (sgn b' m') < sgI (sgn b m))
      omega
    rw [e']
    exact icmp_ne hm hm' _ _ (by simpa using e) rfl rfl
end Go.Proofs.YtohlilgnognmgaaGreatDoor
/-
  The walks of integer.Of, Text and DivMod.
-/
namespace Go.Proofs.YtohlilgnognmgaaGreatDoor
open Go.RowKit
attribute [local go_sem ↓] Go.wp_at_zero Go.wp_at_succ
set_option linter.unusedVariables false

theorem of_z {w : World} (z : Int) (n : Nat) (hz : z = (n : Int)) (hn : n < 18446744073709551616) : Calls Tryz.prog 78 #[.int .u64 z] w (NEnd n 2 w) := by
  subst hz
  exact of_n n hn
set_option maxRecDepth 20000 in
set_option maxHeartbeats 1000000 in
theorem iof_p (n : Int) (h : 0 ≤ n) (h' : n < 9223372036854775808) (w : World) : Calls Tryz.prog 43 #[.int .i64 n] w (IEnd n 2 w) := by
  have B0 := below_a1 w (.cells #[.bool false, .slice none 0 0] 25)
  have kr := (Rx.new w (w.heap.size) (by simp))
  go_enter Tryz.func43, Tryz.ntmps43
  have kr0 := kr.1
  have kr1 := kr.2.1
  have kr2 := kr.2.2.1
  have kr3 := kr.2.2.2
  go_wp2_with fail
  refine (of_z _ n.natAbs ?_ ?_).mono ?_
  · first | omega | (rw [IntKind.wrap_u64]; unfold wrap64; omega)
  · omega
  clear kr0 kr1 kr2 kr3
  rintro e w1 ⟨v1, rfl, z1, bb⟩
  have kr := kr.below bb
  have B0 := B0.trans (bb.mono B0.size)
  clear bb
  have kr0 := kr.1
  have kr1 := kr.2.1
  have kr2 := kr.2.2.1
  have kr3 := kr.2.2.2
  go_wp2_with fail
  refine (signed_i false z1 n (by simp [sgn]; omega)).mono ?_
  clear kr0 kr1 kr2 kr3
  rintro e w2 ⟨vr, rfl, zr, bb⟩
  have kr := kr.below bb
  have B0 := B0.trans (bb.mono B0.size)
  clear bb
  obtain ⟨br, Ar, nr, cr, rfl, zr⟩ := zr.cells
  have kr0 := kr.1
  have kr1 := kr.2.1
  have kr2 := kr.2.2.1
  have kr3 := kr.2.2.2
  go_wp2
  refine bodyPost_ret (v := .agg #[.bool br, .slice Ar nr cr]) (by simp [results, Tryz.results43, go_sem, kr0, kr1]) rfl ⟨_, rfl, zr.ret kr _ _, below_ret B0 (by omega) _ _⟩
set_option maxRecDepth 20000 in
set_option maxHeartbeats 1000000 in
theorem iof_m (n : Int) (h : n < 0) (h' : -9223372036854775808 ≤ n) (w : World) : Calls Tryz.prog 43 #[.int .i64 n] w (IEnd n 2 w) := by
  have B0 := below_a1 w (.cells #[.bool false, .slice none 0 0] 25)
  have kr := (Rx.new w (w.heap.size) (by simp))
  go_enter Tryz.func43, Tryz.ntmps43
  have kr0 := kr.1
  have kr1 := kr.2.1
  have kr2 := kr.2.2.1
  have kr3 := kr.2.2.2
  go_wp2_with fail
  refine (of_z _ n.natAbs ?_ ?_).mono ?_
  · first | omega | (rw [IntKind.wrap_u64]; unfold wrap64; omega)
  · omega
  clear kr0 kr1 kr2 kr3
  rintro e w1 ⟨v1, rfl, z1, bb⟩
  have kr := kr.below bb
  have B0 := B0.trans (bb.mono B0.size)
  clear bb
  have kr0 := kr.1
  have kr1 := kr.2.1
  have kr2 := kr.2.2.1
  have kr3 := kr.2.2.2
  go_wp2_with fail
  refine (signed_i true z1 n (by simp [sgn]; omega)).mono ?_
  clear kr0 kr1 kr2 kr3
  rintro e w2 ⟨vr, rfl, zr, bb⟩
  have kr := kr.below bb
  have B0 := B0.trans (bb.mono B0.size)
  clear bb
  obtain ⟨br, Ar, nr, cr, rfl, zr⟩ := zr.cells
  have kr0 := kr.1
  have kr1 := kr.2.1
  have kr2 := kr.2.2.1
  have kr3 := kr.2.2.2
  go_wp2
  refine bodyPost_ret (v := .agg #[.bool br, .slice Ar nr cr]) (by simp [results, Tryz.results43, go_sem, kr0, kr1]) rfl ⟨_, rfl, zr.ret kr _ _, below_ret B0 (by omega) _ _⟩
theorem iof_i (n : Int) (h : -9223372036854775808 ≤ n) (h' : n < 9223372036854775808) (w : World) : Calls Tryz.prog 43 #[.int .i64 n] w (IEnd n 2 w) := by
  rcases Int.lt_or_le n 0 with h0 | h0
  · exact iof_m n h0 h w
  · exact iof_p n h0 h' w
/-- The decimal notation of an integer. -/
def zdec (z : Int) : List UInt8 := if z < 0 then 45 :: Lib.decDigits z.natAbs else Lib.decDigits z.natAbs
theorem bytes_ext {s t : ByteArray} (h : s.data.toList = t.data.toList) : s = t := by
  cases s; cases t
  simp only at h
  rw [Array.toList_inj.1 h]
theorem text_size {m k : Nat} (hm : m < Num.K ^ k) {t : ByteArray} (h : t.data.toList = Lib.decDigits m) : t.size ≤ 10 * k + 1 := by
  have h1 : t.size = (Lib.decDigits m).length := by rw [← h]; simp
  rw [h1]
  refine Txt.dec_length_le m _ (Nat.lt_of_lt_of_le hm ?_) (by omega)
  have h2 : Num.K ^ k ≤ (10 ^ 10) ^ k := Nat.pow_le_pow_left (by decide) k
  rw [← Nat.pow_mul] at h2
  exact Nat.le_trans h2 (Nat.pow_le_pow_right (by omega) (by omega))
end Go.Proofs.YtohlilgnognmgaaGreatDoor
/-
  The walk of integer.DivMod.
-/
namespace Go.Proofs.YtohlilgnognmgaaGreatDoor
open Go.RowKit
attribute [local go_sem ↓] Go.wp_at_zero Go.wp_at_succ
set_option linter.unusedVariables false

theorem div_n0c {w : World} {va vb : Value} {a b k j : Nat} (ha : Nm w va a k) (hb : Nm w vb b j) (h0 : b = 0) :
    Calls Tryz.prog 56 #[va, vb] w fun e w' => e = .returned (.tuple #[.slice none 0 0, .slice none 0 0, .bool false]) ∧ Below w.heap.size w w' :=
  (div_n0 ha hb h0).mono fun _ _ ⟨h, e⟩ => ⟨h, e ▸ Below.refl _ _⟩
/-- Quotient and remainder. -/
def IDEnd (q r : Int) (k j : Nat) (w : World) (e : Ending) (w' : World) : Prop := ∃ v1 v2, e = .returned (.tuple #[v1, v2, .bool true]) ∧ Iz w' v1 q k ∧ Iz w' v2 r j ∧ Below w.heap.size w w'
def ID0End (w : World) (e : Ending) (w' : World) : Prop := e = .returned (.tuple #[.agg #[.bool false, .slice none 0 0], .agg #[.bool false, .slice none 0 0], .bool false]) ∧ Below w.heap.size w w'
set_option maxRecDepth 20000 in
set_option maxHeartbeats 1000000 in
theorem idiv_0 {w : World} {b b' : Bool} {A A' : Option Addr} {n n' c c' m m' k j : Nat} (hm : Nm w (.slice A n c) m k) (hm' : Nm w (.slice A' n' c') m' j) (hk : k ≤ 400) (hj : j ≤ 400) (h : m' = 0) : Calls Tryz.prog 63 #[.agg #[.bool b, .slice A n c], .agg #[.bool b', .slice A' n' c']] w (ID0End w) := by
  have H := Lib.hid h
  clear h
  have B0 := below_a4 w (.cells #[.bool b, .slice A n c] 25) (.cells #[.bool b', .slice A' n' c'] 25) (.cells #[.bool false, .slice none 0 0] 25) (.cells #[.bool false, .slice none 0 0] 25)
  have hm := hm.below B0
  have hm' := hm'.below B0
  have ka := ((((Bx.new w (w.heap.size) (by simp) (.bool b) (.slice A n c)).below (below_alloc (w.alloc (.cells #[.bool b, .slice A n c] 25)) (.cells #[.bool b', .slice A' n' c'] 25))).below (below_alloc ((w.alloc (.cells #[.bool b, .slice A n c] 25)).alloc (.cells #[.bool b', .slice A' n' c'] 25)) (.cells #[.bool false, .slice none 0 0] 25))).below (below_alloc (((w.alloc (.cells #[.bool b, .slice A n c] 25)).alloc (.cells #[.bool b', .slice A' n' c'] 25)).alloc (.cells #[.bool false, .slice none 0 0] 25)) (.cells #[.bool false, .slice none 0 0] 25)))
  have kb := (((Bx.new (w.alloc (.cells #[.bool b, .slice A n c] 25)) (w.heap.size + 1) (by simp) (.bool b') (.slice A' n' c')).below (below_alloc ((w.alloc (.cells #[.bool b, .slice A n c] 25)).alloc (.cells #[.bool b', .slice A' n' c'] 25)) (.cells #[.bool false, .slice none 0 0] 25))).below (below_alloc (((w.alloc (.cells #[.bool b, .slice A n c] 25)).alloc (.cells #[.bool b', .slice A' n' c'] 25)).alloc (.cells #[.bool false, .slice none 0 0] 25)) (.cells #[.bool false, .slice none 0 0] 25)))
  have kq := ((Rx.new ((w.alloc (.cells #[.bool b, .slice A n c] 25)).alloc (.cells #[.bool b', .slice A' n' c'] 25)) (w.heap.size + 1 + 1) (by simp)).below (below_alloc (((w.alloc (.cells #[.bool b, .slice A n c] 25)).alloc (.cells #[.bool b', .slice A' n' c'] 25)).alloc (.cells #[.bool false, .slice none 0 0] 25)) (.cells #[.bool false, .slice none 0 0] 25)))
  have kr := (Rx.new (((w.alloc (.cells #[.bool b, .slice A n c] 25)).alloc (.cells #[.bool b', .slice A' n' c'] 25)).alloc (.cells #[.bool false, .slice none 0 0] 25)) (w.heap.size + 1 + 1 + 1) (by simp))
  go_enter Tryz.func63, Tryz.ntmps63
  have ka0 := ka.1
  have ka1 := ka.2
  have kb0 := kb.1
  have kb1 := kb.2
  have kq0 := kq.1
  have kq1 := kq.2.1
  have kq2 := kq.2.2.1
  have kq3 := kq.2.2.2
  have kr0 := kr.1
  have kr1 := kr.2.1
  have kr2 := kr.2.2.1
  have kr3 := kr.2.2.2
  go_wp2_with fail
  refine (div_n0c hm hm' H.out).mono ?_
  clear ka0 ka1 kb0 kb1 kq0 kq1 kq2 kq3 kr0 kr1 kr2 kr3
  rintro e w1 ⟨rfl, bb⟩
  have hm := hm.below bb
  have hm' := hm'.below bb
  have ka := ka.below bb
  have kb := kb.below bb
  have kq := kq.below bb
  have kr := kr.below bb
  have B0 := B0.trans (bb.mono B0.size)
  clear bb
  have ka0 := ka.1
  have ka1 := ka.2
  have kb0 := kb.1
  have kb1 := kb.2
  have kq0 := kq.1
  have kq1 := kq.2.1
  have kq2 := kq.2.2.1
  have kq3 := kq.2.2.2
  have kr0 := kr.1
  have kr1 := kr.2.1
  have kr2 := kr.2.2.1
  have kr3 := kr.2.2.2
  go_wp2
  refine bodyPost_ret (v := .tuple #[.agg #[.bool false, .slice none 0 0], .agg #[.bool false, .slice none 0 0], .bool false]) (by simp [results, Tryz.results63, go_sem, kq0, kq1, kr0, kr1]) rfl ⟨rfl, below_ret (below_ret B0 (by omega) _ _) (by omega) _ _⟩
set_option maxRecDepth 20000 in
set_option maxHeartbeats 1000000 in
theorem idiv_p_false {w : World} {A A' : Option Addr} {n n' c c' m m' k j : Nat} (hm : Nm w (.slice A n c) m k) (hm' : Nm w (.slice A' n' c') m' j) (hk : k ≤ 400) (hj : j ≤ 400) (h : 0 < m') : Calls Tryz.prog 63 #[.agg #[.bool false, .slice A n c], .agg #[.bool false, .slice A' n' c']] w (IDEnd (sgn false (m / m')) (sgn false (m % m')) k j w) := by
  have H := Lib.hid h
  clear h
  have B0 := below_a4 w (.cells #[.bool false, .slice A n c] 25) (.cells #[.bool false, .slice A' n' c'] 25) (.cells #[.bool false, .slice none 0 0] 25) (.cells #[.bool false, .slice none 0 0] 25)
  have hm := hm.below B0
  have hm' := hm'.below B0
  have ka := ((((Bx.new w (w.heap.size) (by simp) (.bool false) (.slice A n c)).below (below_alloc (w.alloc (.cells #[.bool false, .slice A n c] 25)) (.cells #[.bool false, .slice A' n' c'] 25))).below (below_alloc ((w.alloc (.cells #[.bool false, .slice A n c] 25)).alloc (.cells #[.bool false, .slice A' n' c'] 25)) (.cells #[.bool false, .slice none 0 0] 25))).below (below_alloc (((w.alloc (.cells #[.bool false, .slice A n c] 25)).alloc (.cells #[.bool false, .slice A' n' c'] 25)).alloc (.cells #[.bool false, .slice none 0 0] 25)) (.cells #[.bool false, .slice none 0 0] 25)))
  have kb := (((Bx.new (w.alloc (.cells #[.bool false, .slice A n c] 25)) (w.heap.size + 1) (by simp) (.bool false) (.slice A' n' c')).below (below_alloc ((w.alloc (.cells #[.bool false, .slice A n c] 25)).alloc (.cells #[.bool false, .slice A' n' c'] 25)) (.cells #[.bool false, .slice none 0 0] 25))).below (below_alloc (((w.alloc (.cells #[.bool false, .slice A n c] 25)).alloc (.cells #[.bool false, .slice A' n' c'] 25)).alloc (.cells #[.bool false, .slice none 0 0] 25)) (.cells #[.bool false, .slice none 0 0] 25)))
  have kq := ((Rx.new ((w.alloc (.cells #[.bool false, .slice A n c] 25)).alloc (.cells #[.bool false, .slice A' n' c'] 25)) (w.heap.size + 1 + 1) (by simp)).below (below_alloc (((w.alloc (.cells #[.bool false, .slice A n c] 25)).alloc (.cells #[.bool false, .slice A' n' c'] 25)).alloc (.cells #[.bool false, .slice none 0 0] 25)) (.cells #[.bool false, .slice none 0 0] 25)))
  have kr := (Rx.new (((w.alloc (.cells #[.bool false, .slice A n c] 25)).alloc (.cells #[.bool false, .slice A' n' c'] 25)).alloc (.cells #[.bool false, .slice none 0 0] 25)) (w.heap.size + 1 + 1 + 1) (by simp))
  go_enter Tryz.func63, Tryz.ntmps63
  have ka0 := ka.1
  have ka1 := ka.2
  have kb0 := kb.1
  have kb1 := kb.2
  have kq0 := kq.1
  have kq1 := kq.2.1
  have kq2 := kq.2.2.1
  have kq3 := kq.2.2.2
  have kr0 := kr.1
  have kr1 := kr.2.1
  have kr2 := kr.2.2.1
  have kr3 := kr.2.2.2
  go_wp2_with fail
  refine (div_n hm hm' (by omega) H.out).mono ?_
  clear ka0 ka1 kb0 kb1 kq0 kq1 kq2 kq3 kr0 kr1 kr2 kr3
  rintro e w1 ⟨v1, v2, rfl, z1, z2, bb⟩
  have hm := hm.below bb
  have hm' := hm'.below bb
  have ka := ka.below bb
  have kb := kb.below bb
  have kq := kq.below bb
  have kr := kr.below bb
  have B0 := B0.trans (bb.mono B0.size)
  clear bb
  obtain ⟨A2, n2, c2, rfl, _, _⟩ := z2.nm.form
  have ka0 := ka.1
  have ka1 := ka.2
  have kb0 := kb.1
  have kb1 := kb.2
  have kq0 := kq.1
  have kq1 := kq.2.1
  have kq2 := kq.2.2.1
  have kq3 := kq.2.2.2
  have kr0 := kr.1
  have kr1 := kr.2.1
  have kr2 := kr.2.2.1
  have kr3 := kr.2.2.2
  go_wp2_with fail
  refine (signed_i false z1 _ rfl).mono ?_
  clear ka0 ka1 kb0 kb1 kq0 kq1 kq2 kq3 kr0 kr1 kr2 kr3
  rintro e w2 ⟨vq, rfl, zq, bb⟩
  have ka := ka.below bb
  have kb := kb.below bb
  have kq := kq.below bb
  have kr := kr.below bb
  have z1 := z1.below bb
  have z2 := z2.below bb
  have B0 := B0.trans (bb.mono B0.size)
  clear bb
  obtain ⟨bq, Aq, nq, cq, rfl, zq⟩ := zq.cells
  have ka0 := ka.1
  have ka1 := ka.2
  have kb0 := kb.1
  have kb1 := kb.2
  have kq0 := kq.1
  have kq1 := kq.2.1
  have kq2 := kq.2.2.1
  have kq3 := kq.2.2.2
  have kr0 := kr.1
  have kr1 := kr.2.1
  have kr2 := kr.2.2.1
  have kr3 := kr.2.2.2
  go_wp2_with fail
  refine (signed_i false z2 _ rfl).mono ?_
  clear ka0 ka1 kb0 kb1 kq0 kq1 kq2 kq3 kr0 kr1 kr2 kr3
  rintro e w3 ⟨vr, rfl, zr, bb⟩
  have ka := ka.below bb
  have kb := kb.below bb
  have kq := kq.below bb
  have kr := kr.below bb
  have z1 := z1.below bb
  have z2 := z2.below bb
  have zq := zq.below bb
  have B0 := B0.trans (bb.mono B0.size)
  clear bb
  obtain ⟨br, Ar, nr, cr, rfl, zr⟩ := zr.cells
  have ka0 := ka.1
  have ka1 := ka.2
  have kb0 := kb.1
  have kb1 := kb.2
  have kq0 := kq.1
  have kq1 := kq.2.1
  have kq2 := kq.2.2.1
  have kq3 := kq.2.2.2
  have kr0 := kr.1
  have kr1 := kr.2.1
  have kr2 := kr.2.2.1
  have kr3 := kr.2.2.2
  go_wp2
  refine bodyPost_ret (v := .tuple #[.agg #[.bool bq, .slice Aq nq cq], .agg #[.bool br, .slice Ar nr cr], .bool true]) (by simp [results, Tryz.results63, go_sem, kq0, kq1, kr0, kr1]) rfl ⟨_, _, rfl, (zq.ret kq _ _).ret (kr.ret (by omega) _ _) _ _, (zr.ret kq _ _).ret (kr.ret (by omega) _ _) _ _, below_ret (below_ret B0 (by omega) _ _) (by omega) _ _⟩
set_option maxRecDepth 20000 in
set_option maxHeartbeats 1000000 in
theorem idiv_p_true {w : World} {A A' : Option Addr} {n n' c c' m m' k j : Nat} (hm : Nm w (.slice A n c) m k) (hm' : Nm w (.slice A' n' c') m' j) (hk : k ≤ 400) (hj : j ≤ 400) (h : 0 < m') : Calls Tryz.prog 63 #[.agg #[.bool false, .slice A n c], .agg #[.bool true, .slice A' n' c']] w (IDEnd (sgn true (m / m')) (sgn false (m % m')) k j w) := by
  have H := Lib.hid h
  clear h
  have B0 := below_a4 w (.cells #[.bool false, .slice A n c] 25) (.cells #[.bool true, .slice A' n' c'] 25) (.cells #[.bool false, .slice none 0 0] 25) (.cells #[.bool false, .slice none 0 0] 25)
  have hm := hm.below B0
  have hm' := hm'.below B0
  have ka := ((((Bx.new w (w.heap.size) (by simp) (.bool false) (.slice A n c)).below (below_alloc (w.alloc (.cells #[.bool false, .slice A n c] 25)) (.cells #[.bool true, .slice A' n' c'] 25))).below (below_alloc ((w.alloc (.cells #[.bool false, .slice A n c] 25)).alloc (.cells #[.bool true, .slice A' n' c'] 25)) (.cells #[.bool false, .slice none 0 0] 25))).below (below_alloc (((w.alloc (.cells #[.bool false, .slice A n c] 25)).alloc (.cells #[.bool true, .slice A' n' c'] 25)).alloc (.cells #[.bool false, .slice none 0 0] 25)) (.cells #[.bool false, .slice none 0 0] 25)))
  have kb := (((Bx.new (w.alloc (.cells #[.bool false, .slice A n c] 25)) (w.heap.size + 1) (by simp) (.bool true) (.slice A' n' c')).below (below_alloc ((w.alloc (.cells #[.bool false, .slice A n c] 25)).alloc (.cells #[.bool true, .slice A' n' c'] 25)) (.cells #[.bool false, .slice none 0 0] 25))).below (below_alloc (((w.alloc (.cells #[.bool false, .slice A n c] 25)).alloc (.cells #[.bool true, .slice A' n' c'] 25)).alloc (.cells #[.bool false, .slice none 0 0] 25)) (.cells #[.bool false, .slice none 0 0] 25)))
  have kq := ((Rx.new ((w.alloc (.cells #[.bool false, .slice A n c] 25)).alloc (.cells #[.bool true, .slice A' n' c'] 25)) (w.heap.size + 1 + 1) (by simp)).below (below_alloc (((w.alloc (.cells #[.bool false, .slice A n c] 25)).alloc (.cells #[.bool true, .slice A' n' c'] 25)).alloc (.cells #[.bool false, .slice none 0 0] 25)) (.cells #[.bool false, .slice none 0 0] 25)))
  have kr := (Rx.new (((w.alloc (.cells #[.bool false, .slice A n c] 25)).alloc (.cells #[.bool true, .slice A' n' c'] 25)).alloc (.cells #[.bool false, .slice none 0 0] 25)) (w.heap.size + 1 + 1 + 1) (by simp))
  go_enter Tryz.func63, Tryz.ntmps63
  have ka0 := ka.1
  have ka1 := ka.2
  have kb0 := kb.1
  have kb1 := kb.2
  have kq0 := kq.1
  have kq1 := kq.2.1
  have kq2 := kq.2.2.1
  have kq3 := kq.2.2.2
  have kr0 := kr.1
  have kr1 := kr.2.1
  have kr2 := kr.2.2.1
  have kr3 := kr.2.2.2
  go_wp2_with fail
  refine (div_n hm hm' (by omega) H.out).mono ?_
  clear ka0 ka1 kb0 kb1 kq0 kq1 kq2 kq3 kr0 kr1 kr2 kr3
  rintro e w1 ⟨v1, v2, rfl, z1, z2, bb⟩
  have hm := hm.below bb
  have hm' := hm'.below bb
  have ka := ka.below bb
  have kb := kb.below bb
  have kq := kq.below bb
  have kr := kr.below bb
  have B0 := B0.trans (bb.mono B0.size)
  clear bb
  obtain ⟨A2, n2, c2, rfl, _, _⟩ := z2.nm.form
  have ka0 := ka.1
  have ka1 := ka.2
  have kb0 := kb.1
  have kb1 := kb.2
  have kq0 := kq.1
  have kq1 := kq.2.1
  have kq2 := kq.2.2.1
  have kq3 := kq.2.2.2
  have kr0 := kr.1
  have kr1 := kr.2.1
  have kr2 := kr.2.2.1
  have kr3 := kr.2.2.2
  go_wp2_with fail
  refine (signed_i true z1 _ rfl).mono ?_
  clear ka0 ka1 kb0 kb1 kq0 kq1 kq2 kq3 kr0 kr1 kr2 kr3
  rintro e w2 ⟨vq, rfl, zq, bb⟩
  have ka := ka.below bb
  have kb := kb.below bb
  have kq := kq.below bb
  have kr := kr.below bb
  have z1 := z1.below bb
  have z2 := z2.below bb
  have B0 := B0.trans (bb.mono B0.size)
  clear bb
  obtain ⟨bq, Aq, nq, cq, rfl, zq⟩ := zq.cells
  have ka0 := ka.1
  have ka1 := ka.2
  have kb0 := kb.1
  have kb1 := kb.2
  have kq0 := kq.1
  have kq1 := kq.2.1
  have kq2 := kq.2.2.1
  have kq3 := kq.2.2.2
  have kr0 := kr.1
  have kr1 := kr.2.1
  have kr2 := kr.2.2.1
  have kr3 := kr.2.2.2
  go_wp2_with fail
  refine (signed_i false z2 _ rfl).mono ?_
  clear ka0 ka1 kb0 kb1 kq0 kq1 kq2 kq3 kr0 kr1 kr2 kr3
  rintro e w3 ⟨vr, rfl, zr, bb⟩
  have ka := ka.below bb
  have kb := kb.below bb
  have kq := kq.below bb
  have kr := kr.below bb
  have z1 := z1.below bb
  have z2 := z2.below bb
  have zq := zq.below bb
  have B0 := B0.trans (bb.mono B0.size)
  clear bb
  obtain ⟨br, Ar, nr, cr, rfl, zr⟩ := zr.cells
  have ka0 := ka.1
  have ka1 := ka.2
  have kb0 := kb.1
  have kb1 := kb.2
  have kq0 := kq.1
  have kq1 := kq.2.1
  have kq2 := kq.2.2.1
  have kq3 := kq.2.2.2
  have kr0 := kr.1
  have kr1 := kr.2.1
  have kr2 := kr.2.2.1
  have kr3 := kr.2.2.2
  go_wp2
  refine bodyPost_ret (v := .tuple #[.agg #[.bool bq, .slice Aq nq cq], .agg #[.bool br, .slice Ar nr cr], .bool true]) (by simp [results, Tryz.results63, go_sem, kq0, kq1, kr0, kr1]) rfl ⟨_, _, rfl, (zq.ret kq _ _).ret (kr.ret (by omega) _ _) _ _, (zr.ret kq _ _).ret (kr.ret (by omega) _ _) _ _, below_ret (below_ret B0 (by omega) _ _) (by omega) _ _⟩
set_option maxRecDepth 20000 in
set_option maxHeartbeats 1000000 in
theorem idiv_e_false {w : World} {A A' : Option Addr} {n n' c c' m m' k j : Nat} (hm : Nm w (.slice A n c) m k) (hm' : Nm w (.slice A' n' c') m' j) (hk : k ≤ 400) (hj : j ≤ 400) (h : 0 < m') (h' : m % m' = 0) : Calls Tryz.prog 63 #[.agg #[.bool true, .slice A n c], .agg #[.bool false, .slice A' n' c']] w (IDEnd (sgn true (m / m')) (sgn false (m % m')) k j w) := by
  have H := Lib.hid h
  clear h
  have H' := Lib.hid h'
  clear h'
  have B0 := below_a4 w (.cells #[.bool true, .slice A n c] 25) (.cells #[.bool false, .slice A' n' c'] 25) (.cells #[.bool false, .slice none 0 0] 25) (.cells #[.bool false, .slice none 0 0] 25)
  have hm := hm.below B0
  have hm' := hm'.below B0
  have ka := ((((Bx.new w (w.heap.size) (by simp) (.bool true) (.slice A n c)).below (below_alloc (w.alloc (.cells #[.bool true, .slice A n c] 25)) (.cells #[.bool false, .slice A' n' c'] 25))).below (below_alloc ((w.alloc (.cells #[.bool true, .slice A n c] 25)).alloc (.cells #[.bool false, .slice A' n' c'] 25)) (.cells #[.bool false, .slice none 0 0] 25))).below (below_alloc (((w.alloc (.cells #[.bool true, .slice A n c] 25)).alloc (.cells #[.bool false, .slice A' n' c'] 25)).alloc (.cells #[.bool false, .slice none 0 0] 25)) (.cells #[.bool false, .slice none 0 0] 25)))
  have kb := (((Bx.new (w.alloc (.cells #[.bool true, .slice A n c] 25)) (w.heap.size + 1) (by simp) (.bool false) (.slice A' n' c')).below (below_alloc ((w.alloc (.cells #[.bool true, .slice A n c] 25)).alloc (.cells #[.bool false, .slice A' n' c'] 25)) (.cells #[.bool false, .slice none 0 0] 25))).below (below_alloc (((w.alloc (.cells #[.bool true, .slice A n c] 25)).alloc (.cells #[.bool false, .slice A' n' c'] 25)).alloc (.cells #[.bool false, .slice none 0 0] 25)) (.cells #[.bool false, .slice none 0 0] 25)))
  have kq := ((Rx.new ((w.alloc (.cells #[.bool true, .slice A n c] 25)).alloc (.cells #[.bool false, .slice A' n' c'] 25)) (w.heap.size + 1 + 1) (by simp)).below (below_alloc (((w.alloc (.cells #[.bool true, .slice A n c] 25)).alloc (.cells #[.bool false, .slice A' n' c'] 25)).alloc (.cells #[.bool false, .slice none 0 0] 25)) (.cells #[.bool false, .slice none 0 0] 25)))
  have kr := (Rx.new (((w.alloc (.cells #[.bool true, .slice A n c] 25)).alloc (.cells #[.bool false, .slice A' n' c'] 25)).alloc (.cells #[.bool false, .slice none 0 0] 25)) (w.heap.size + 1 + 1 + 1) (by simp))
  go_enter Tryz.func63, Tryz.ntmps63
  have ka0 := ka.1
  have ka1 := ka.2
  have kb0 := kb.1
  have kb1 := kb.2
  have kq0 := kq.1
  have kq1 := kq.2.1
  have kq2 := kq.2.2.1
  have kq3 := kq.2.2.2
  have kr0 := kr.1
  have kr1 := kr.2.1
  have kr2 := kr.2.2.1
  have kr3 := kr.2.2.2
  go_wp2_with fail
  refine (div_n hm hm' (by omega) H.out).mono ?_
  clear ka0 ka1 kb0 kb1 kq0 kq1 kq2 kq3 kr0 kr1 kr2 kr3
  rintro e w1 ⟨v1, v2, rfl, z1, z2, bb⟩
  have hm := hm.below bb
  have hm' := hm'.below bb
  have ka := ka.below bb
  have kb := kb.below bb
  have kq := kq.below bb
  have kr := kr.below bb
  have B0 := B0.trans (bb.mono B0.size)
  clear bb
  obtain ⟨A2, n2, c2, rfl, _, _⟩ := z2.nm.form
  have hn2 := z2.len0.1.2 H'.out
  have Hn2 : ¬ 0 < n2 := by omega
  clear hn2
  have ka0 := ka.1
  have ka1 := ka.2
  have kb0 := kb.1
  have kb1 := kb.2
  have kq0 := kq.1
  have kq1 := kq.2.1
  have kq2 := kq.2.2.1
  have kq3 := kq.2.2.2
  have kr0 := kr.1
  have kr1 := kr.2.1
  have kr2 := kr.2.2.1
  have kr3 := kr.2.2.2
  go_wp2_with fail
  refine (signed_i true z1 _ rfl).mono ?_
  clear ka0 ka1 kb0 kb1 kq0 kq1 kq2 kq3 kr0 kr1 kr2 kr3
  rintro e w2 ⟨vq, rfl, zq, bb⟩
  have ka := ka.below bb
  have kb := kb.below bb
  have kq := kq.below bb
  have kr := kr.below bb
  have z1 := z1.below bb
  have z2 := z2.below bb
  have B0 := B0.trans (bb.mono B0.size)
  clear bb
  obtain ⟨bq, Aq, nq, cq, rfl, zq⟩ := zq.cells
  have ka0 := ka.1
  have ka1 := ka.2
  have kb0 := kb.1
  have kb1 := kb.2
  have kq0 := kq.1
  have kq1 := kq.2.1
  have kq2 := kq.2.2.1
  have kq3 := kq.2.2.2
  have kr0 := kr.1
  have kr1 := kr.2.1
  have kr2 := kr.2.2.1
  have kr3 := kr.2.2.2
  go_wp2_with fail
  refine (signed_i false z2 _ rfl).mono ?_
  clear ka0 ka1 kb0 kb1 kq0 kq1 kq2 kq3 kr0 kr1 kr2 kr3
  rintro e w3 ⟨vr, rfl, zr, bb⟩
  have ka := ka.below bb
  have kb := kb.below bb
  have kq := kq.below bb
  have kr := kr.below bb
  have z1 := z1.below bb
  have z2 := z2.below bb
  have zq := zq.below bb
  have B0 := B0.trans (bb.mono B0.size)
  clear bb
  obtain ⟨br, Ar, nr, cr, rfl, zr⟩ := zr.cells
  have ka0 := ka.1
  have ka1 := ka.2
  have kb0 := kb.1
  have kb1 := kb.2
  have kq0 := kq.1
  have kq1 := kq.2.1
  have kq2 := kq.2.2.1
  have kq3 := kq.2.2.2
  have kr0 := kr.1
  have kr1 := kr.2.1
  have kr2 := kr.2.2.1
  have kr3 := kr.2.2.2
  go_wp2
  refine bodyPost_ret (v := .tuple #[.agg #[.bool bq, .slice Aq nq cq], .agg #[.bool br, .slice Ar nr cr], .bool true]) (by simp [results, Tryz.results63, go_sem, kq0, kq1, kr0, kr1]) rfl ⟨_, _, rfl, (zq.ret kq _ _).ret (kr.ret (by omega) _ _) _ _, (zr.ret kq _ _).ret (kr.ret (by omega) _ _) _ _, below_ret (below_ret B0 (by omega) _ _) (by omega) _ _⟩
set_option maxRecDepth 20000 in
set_option maxHeartbeats 1000000 in
theorem idiv_e_true {w : World} {A A' : Option Addr} {n n' c c' m m' k j : Nat} (hm : Nm w (.slice A n c) m k) (hm' : Nm w (.slice A' n' c') m' j) (hk : k ≤ 400) (hj : j ≤ 400) (h : 0 < m') (h' : m % m' = 0) : Calls Tryz.prog 63 #[.agg #[.bool true, .slice A n c], .agg #[.bool true, .slice A' n' c']] w (IDEnd (sgn false (m / m')) (sgn false (m % m')) k j w) := by
  have H := Lib.hid h
  clear h
  have H' := Lib.hid h'
  clear h'
  have B0 := below_a4 w (.cells #[.bool true, .slice A n c] 25) (.cells #[.bool true, .slice A' n' c'] 25) (.cells #[.bool false, .slice none 0 0] 25) (.cells #[.bool false, .slice none 0 0] 25)
  have hm := hm.below B0
  have hm' := hm'.below B0
  have ka := ((((Bx.new w (w.heap.size) (by simp) (.bool true) (.slice A n c)).below (below_alloc (w.alloc (.cells #[.bool true, .slice A n c] 25)) (.cells #[.bool true, .slice A' n' c'] 25))).below (below_alloc ((w.alloc (.cells #[.bool true, .slice A n c] 25)).alloc (.cells #[.bool true, .slice A' n' c'] 25)) (.cells #[.bool false, .slice none 0 0] 25))).below (below_alloc (((w.alloc (.cells #[.bool true, .slice A n c] 25)).alloc (.cells #[.bool true, .slice A' n' c'] 25)).alloc (.cells #[.bool false, .slice none 0 0] 25)) (.cells #[.bool false, .slice none 0 0] 25)))
  have kb := (((Bx.new (w.alloc (.cells #[.bool true, .slice A n c] 25)) (w.heap.size + 1) (by simp) (.bool true) (.slice A' n' c')).below (below_alloc ((w.alloc (.cells #[.bool true, .slice A n c] 25)).alloc (.cells #[.bool true, .slice A' n' c'] 25)) (.cells #[.bool false, .slice none 0 0] 25))).below (below_alloc (((w.alloc (.cells #[.bool true, .slice A n c] 25)).alloc (.cells #[.bool true, .slice A' n' c'] 25)).alloc (.cells #[.bool false, .slice none 0 0] 25)) (.cells #[.bool false, .slice none 0 0] 25)))
  have kq := ((Rx.new ((w.alloc (.cells #[.bool true, .slice A n c] 25)).alloc (.cells #[.bool true, .slice A' n' c'] 25)) (w.heap.size + 1 + 1) (by simp)).below (below_alloc (((w.alloc (.cells #[.bool true, .slice A n c] 25)).alloc (.cells #[.bool true, .slice A' n' c'] 25)).alloc (.cells #[.bool false, .slice none 0 0] 25)) (.cells #[.bool false, .slice none 0 0] 25)))
  have kr := (Rx.new (((w.alloc (.cells #[.bool true, .slice A n c] 25)).alloc (.cells #[.bool true, .slice A' n' c'] 25)).alloc (.cells #[.bool false, .slice none 0 0] 25)) (w.heap.size + 1 + 1 + 1) (by simp))
  go_enter Tryz.func63, Tryz.ntmps63
  have ka0 := ka.1
  have ka1 := ka.2
  have kb0 := kb.1
  have kb1 := kb.2
  have kq0 := kq.1
  have kq1 := kq.2.1
  have kq2 := kq.2.2.1
  have kq3 := kq.2.2.2
  have kr0 := kr.1
  have kr1 := kr.2.1
  have kr2 := kr.2.2.1
  have kr3 := kr.2.2.2
  go_wp2_with fail
  refine (div_n hm hm' (by omega) H.out).mono ?_
  clear ka0 ka1 kb0 kb1 kq0 kq1 kq2 kq3 kr0 kr1 kr2 kr3
  rintro e w1 ⟨v1, v2, rfl, z1, z2, bb⟩
  have hm := hm.below bb
  have hm' := hm'.below bb
  have ka := ka.below bb
  have kb := kb.below bb
  have kq := kq.below bb
  have kr := kr.below bb
  have B0 := B0.trans (bb.mono B0.size)
  clear bb
  obtain ⟨A2, n2, c2, rfl, _, _⟩ := z2.nm.form
  have hn2 := z2.len0.1.2 H'.out
  have Hn2 : ¬ 0 < n2 := by omega
  clear hn2
  have ka0 := ka.1
  have ka1 := ka.2
  have kb0 := kb.1
  have kb1 := kb.2
  have kq0 := kq.1
  have kq1 := kq.2.1
  have kq2 := kq.2.2.1
  have kq3 := kq.2.2.2
  have kr0 := kr.1
  have kr1 := kr.2.1
  have kr2 := kr.2.2.1
  have kr3 := kr.2.2.2
  go_wp2_with fail
  refine (signed_i false z1 _ rfl).mono ?_
  clear ka0 ka1 kb0 kb1 kq0 kq1 kq2 kq3 kr0 kr1 kr2 kr3
  rintro e w2 ⟨vq, rfl, zq, bb⟩
  have ka := ka.below bb
  have kb := kb.below bb
  have kq := kq.below bb
  have kr := kr.below bb
  have z1 := z1.below bb
  have z2 := z2.below bb
  have B0 := B0.trans (bb.mono B0.size)
  clear bb
  obtain ⟨bq, Aq, nq, cq, rfl, zq⟩ := zq.cells
  have ka0 := ka.1
  have ka1 := ka.2
  have kb0 := kb.1
  have kb1 := kb.2
  have kq0 := kq.1
  have kq1 := kq.2.1
  have kq2 := kq.2.2.1
  have kq3 := kq.2.2.2
  have kr0 := kr.1
  have kr1 := kr.2.1
  have kr2 := kr.2.2.1
  have kr3 := kr.2.2.2
  go_wp2_with fail
  refine (signed_i false z2 _ rfl).mono ?_
  clear ka0 ka1 kb0 kb1 kq0 kq1 kq2 kq3 kr0 kr1 kr2 kr3
  rintro e w3 ⟨vr, rfl, zr, bb⟩
  have ka := ka.below bb
  have kb := kb.below bb
  have kq := kq.below bb
  have kr := kr.below bb
  have z1 := z1.below bb
  have z2 := z2.below bb
  have zq := zq.below bb
  have B0 := B0.trans (bb.mono B0.size)
  clear bb
  obtain ⟨br, Ar, nr, cr, rfl, zr⟩ := zr.cells
  have ka0 := ka.1
  have ka1 := ka.2
  have kb0 := kb.1
  have kb1 := kb.2
  have kq0 := kq.1
  have kq1 := kq.2.1
  have kq2 := kq.2.2.1
  have kq3 := kq.2.2.2
  have kr0 := kr.1
  have kr1 := kr.2.1
  have kr2 := kr.2.2.1
  have kr3 := kr.2.2.2
  go_wp2
  refine bodyPost_ret (v := .tuple #[.agg #[.bool bq, .slice Aq nq cq], .agg #[.bool br, .slice Ar nr cr], .bool true]) (by simp [results, Tryz.results63, go_sem, kq0, kq1, kr0, kr1]) rfl ⟨_, _, rfl, (zq.ret kq _ _).ret (kr.ret (by omega) _ _) _ _, (zr.ret kq _ _).ret (kr.ret (by omega) _ _) _ _, below_ret (below_ret B0 (by omega) _ _) (by omega) _ _⟩
set_option maxRecDepth 20000 in
set_option maxHeartbeats 1000000 in
theorem idiv_m_false {w : World} {A A' : Option Addr} {n n' c c' m m' k j : Nat} (hm : Nm w (.slice A n c) m k) (hm' : Nm w (.slice A' n' c') m' j) (hk : k ≤ 400) (hj : j ≤ 400) (h : 0 < m') (h' : 0 < m % m') : Calls Tryz.prog 63 #[.agg #[.bool true, .slice A n c], .agg #[.bool false, .slice A' n' c']] w (IDEnd (sgn true (m / m' + 1)) (sgn false (m' - m % m')) (k + 3) j w) := by
  have H := Lib.hid h
  have H2 := Lib.hid (Nat.le_of_lt (Nat.mod_lt m h))
  clear h
  have H' := Lib.hid h'
  clear h'
  have B0 := below_a4 w (.cells #[.bool true, .slice A n c] 25) (.cells #[.bool false, .slice A' n' c'] 25) (.cells #[.bool false, .slice none 0 0] 25) (.cells #[.bool false, .slice none 0 0] 25)
  have hm := hm.below B0
  have hm' := hm'.below B0
  have ka := ((((Bx.new w (w.heap.size) (by simp) (.bool true) (.slice A n c)).below (below_alloc (w.alloc (.cells #[.bool true, .slice A n c] 25)) (.cells #[.bool false, .slice A' n' c'] 25))).below (below_alloc ((w.alloc (.cells #[.bool true, .slice A n c] 25)).alloc (.cells #[.bool false, .slice A' n' c'] 25)) (.cells #[.bool false, .slice none 0 0] 25))).below (below_alloc (((w.alloc (.cells #[.bool true, .slice A n c] 25)).alloc (.cells #[.bool false, .slice A' n' c'] 25)).alloc (.cells #[.bool false, .slice none 0 0] 25)) (.cells #[.bool false, .slice none 0 0] 25)))
  have kb := (((Bx.new (w.alloc (.cells #[.bool true, .slice A n c] 25)) (w.heap.size + 1) (by simp) (.bool false) (.slice A' n' c')).below (below_alloc ((w.alloc (.cells #[.bool true, .slice A n c] 25)).alloc (.cells #[.bool false, .slice A' n' c'] 25)) (.cells #[.bool false, .slice none 0 0] 25))).below (below_alloc (((w.alloc (.cells #[.bool true, .slice A n c] 25)).alloc (.cells #[.bool false, .slice A' n' c'] 25)).alloc (.cells #[.bool false, .slice none 0 0] 25)) (.cells #[.bool false, .slice none 0 0] 25)))
  have kq := ((Rx.new ((w.alloc (.cells #[.bool true, .slice A n c] 25)).alloc (.cells #[.bool false, .slice A' n' c'] 25)) (w.heap.size + 1 + 1) (by simp)).below (below_alloc (((w.alloc (.cells #[.bool true, .slice A n c] 25)).alloc (.cells #[.bool false, .slice A' n' c'] 25)).alloc (.cells #[.bool false, .slice none 0 0] 25)) (.cells #[.bool false, .slice none 0 0] 25)))
  have kr := (Rx.new (((w.alloc (.cells #[.bool true, .slice A n c] 25)).alloc (.cells #[.bool false, .slice A' n' c'] 25)).alloc (.cells #[.bool false, .slice none 0 0] 25)) (w.heap.size + 1 + 1 + 1) (by simp))
  go_enter Tryz.func63, Tryz.ntmps63
  have ka0 := ka.1
  have ka1 := ka.2
  have kb0 := kb.1
  have kb1 := kb.2
  have kq0 := kq.1
  have kq1 := kq.2.1
  have kq2 := kq.2.2.1
  have kq3 := kq.2.2.2
  have kr0 := kr.1
  have kr1 := kr.2.1
  have kr2 := kr.2.2.1
  have kr3 := kr.2.2.2
  go_wp2_with fail
  refine (div_n hm hm' (by omega) H.out).mono ?_
  clear ka0 ka1 kb0 kb1 kq0 kq1 kq2 kq3 kr0 kr1 kr2 kr3
  rintro e w1 ⟨v1, v2, rfl, z1, z2, bb⟩
  have hm := hm.below bb
  have hm' := hm'.below bb
  have ka := ka.below bb
  have kb := kb.below bb
  have kq := kq.below bb
  have kr := kr.below bb
  have B0 := B0.trans (bb.mono B0.size)
  clear bb
  obtain ⟨A2, n2, c2, rfl, _, _⟩ := z2.nm.form
  have hn2 : 0 < n2 := by have h1 := z2.len0.1.1; have h2 := H'.out; omega
  have ka0 := ka.1
  have ka1 := ka.2
  have kb0 := kb.1
  have kb1 := kb.2
  have kq0 := kq.1
  have kq1 := kq.2.1
  have kq2 := kq.2.2.1
  have kq3 := kq.2.2.2
  have kr0 := kr.1
  have kr1 := kr.2.1
  have kr2 := kr.2.2.1
  have kr3 := kr.2.2.2
  go_wp2_with fail
  refine (of_z 1 1 rfl (by omega)).mono ?_
  clear ka0 ka1 kb0 kb1 kq0 kq1 kq2 kq3 kr0 kr1 kr2 kr3
  rintro e w2 ⟨v3, rfl, z3, bb⟩
  have hm' := hm'.below bb
  have ka := ka.below bb
  have kb := kb.below bb
  have kq := kq.below bb
  have kr := kr.below bb
  have z1 := z1.below bb
  have z2 := z2.below bb
  have B0 := B0.trans (bb.mono B0.size)
  clear bb
  have ka0 := ka.1
  have ka1 := ka.2
  have kb0 := kb.1
  have kb1 := kb.2
  have kq0 := kq.1
  have kq1 := kq.2.1
  have kq2 := kq.2.2.1
  have kq3 := kq.2.2.2
  have kr0 := kr.1
  have kr1 := kr.2.1
  have kr2 := kr.2.2.1
  have kr3 := kr.2.2.2
  go_wp2_with fail
  refine (add_n z1.nm z3.nm (by omega) (by omega)).mono ?_
  clear ka0 ka1 kb0 kb1 kq0 kq1 kq2 kq3 kr0 kr1 kr2 kr3
  rintro e w3 ⟨v4, rfl, z4, bb⟩
  have hm' := hm'.below bb
  have ka := ka.below bb
  have kb := kb.below bb
  have kq := kq.below bb
  have kr := kr.below bb
  have z1 := z1.below bb
  have z2 := z2.below bb
  have z3 := z3.below bb
  have B0 := B0.trans (bb.mono B0.size)
  clear bb
  have ka0 := ka.1
  have ka1 := ka.2
  have kb0 := kb.1
  have kb1 := kb.2
  have kq0 := kq.1
  have kq1 := kq.2.1
  have kq2 := kq.2.2.1
  have kq3 := kq.2.2.2
  have kr0 := kr.1
  have kr1 := kr.2.1
  have kr2 := kr.2.2.1
  have kr3 := kr.2.2.2
  go_wp2_with fail
  refine (sub_n hm' z2.nm (by omega) H2.out).mono ?_
  clear ka0 ka1 kb0 kb1 kq0 kq1 kq2 kq3 kr0 kr1 kr2 kr3
  rintro e w4 ⟨v5, rfl, z5, bb⟩
  have hm' := hm'.below bb
  have ka := ka.below bb
  have kb := kb.below bb
  have kq := kq.below bb
  have kr := kr.below bb
  have z2 := z2.below bb
  have z4 := z4.below bb
  have B0 := B0.trans (bb.mono B0.size)
  clear bb
  have z4 := z4.wide' (k' := k + 3) (by omega)
  have ka0 := ka.1
  have ka1 := ka.2
  have kb0 := kb.1
  have kb1 := kb.2
  have kq0 := kq.1
  have kq1 := kq.2.1
  have kq2 := kq.2.2.1
  have kq3 := kq.2.2.2
  have kr0 := kr.1
  have kr1 := kr.2.1
  have kr2 := kr.2.2.1
  have kr3 := kr.2.2.2
  go_wp2_with fail
  refine (signed_i true z4 _ rfl).mono ?_
  clear ka0 ka1 kb0 kb1 kq0 kq1 kq2 kq3 kr0 kr1 kr2 kr3
  rintro e w5 ⟨vq, rfl, zq, bb⟩
  have ka := ka.below bb
  have kb := kb.below bb
  have kq := kq.below bb
  have kr := kr.below bb
  have z4 := z4.below bb
  have z5 := z5.below bb
  have B0 := B0.trans (bb.mono B0.size)
  clear bb
  obtain ⟨bq, Aq, nq, cq, rfl, zq⟩ := zq.cells
  have ka0 := ka.1
  have ka1 := ka.2
  have kb0 := kb.1
  have kb1 := kb.2
  have kq0 := kq.1
  have kq1 := kq.2.1
  have kq2 := kq.2.2.1
  have kq3 := kq.2.2.2
  have kr0 := kr.1
  have kr1 := kr.2.1
  have kr2 := kr.2.2.1
  have kr3 := kr.2.2.2
  go_wp2_with fail
  refine (signed_i false z5 _ rfl).mono ?_
  clear ka0 ka1 kb0 kb1 kq0 kq1 kq2 kq3 kr0 kr1 kr2 kr3
  rintro e w6 ⟨vr, rfl, zr, bb⟩
  have ka := ka.below bb
  have kb := kb.below bb
  have kq := kq.below bb
  have kr := kr.below bb
  have z4 := z4.below bb
  have z5 := z5.below bb
  have zq := zq.below bb
  have B0 := B0.trans (bb.mono B0.size)
  clear bb
  obtain ⟨br, Ar, nr, cr, rfl, zr⟩ := zr.cells
  have ka0 := ka.1
  have ka1 := ka.2
  have kb0 := kb.1
  have kb1 := kb.2
  have kq0 := kq.1
  have kq1 := kq.2.1
  have kq2 := kq.2.2.1
  have kq3 := kq.2.2.2
  have kr0 := kr.1
  have kr1 := kr.2.1
  have kr2 := kr.2.2.1
  have kr3 := kr.2.2.2
  go_wp2
  refine bodyPost_ret (v := .tuple #[.agg #[.bool bq, .slice Aq nq cq], .agg #[.bool br, .slice Ar nr cr], .bool true]) (by simp [results, Tryz.results63, go_sem, kq0, kq1, kr0, kr1]) rfl ⟨_, _, rfl, (zq.ret kq _ _).ret (kr.ret (by omega) _ _) _ _, (zr.ret kq _ _).ret (kr.ret (by omega) _ _) _ _, below_ret (below_ret B0 (by omega) _ _) (by omega) _ _⟩
set_option maxRecDepth 20000 in
set_option maxHeartbeats 1000000 in
theorem idiv_m_true {w : World} {A A' : Option Addr} {n n' c c' m m' k j : Nat} (hm : Nm w (.slice A n c) m k) (hm' : Nm w (.slice A' n' c') m' j) (hk : k ≤ 400) (hj : j ≤ 400) (h : 0 < m') (h' : 0 < m % m') : Calls Tryz.prog 63 #[.agg #[.bool true, .slice A n c], .agg #[.bool true, .slice A' n' c']] w (IDEnd (sgn false (m / m' + 1)) (sgn false (m' - m % m')) (k + 3) j w) := by
  have H := Lib.hid h
  have H2 := Lib.hid (Nat.le_of_lt (Nat.mod_lt m h))
  clear h
  have H' := Lib.hid h'
  clear h'
  have B0 := below_a4 w (.cells #[.bool true, .slice A n c] 25) (.cells #[.bool true, .slice A' n' c'] 25) (.cells #[.bool false, .slice none 0 0] 25) (.cells #[.bool false, .slice none 0 0] 25)
  have hm := hm.below B0
  have hm' := hm'.below B0
  have ka := ((((Bx.new w (w.heap.size) (by simp) (.bool true) (.slice A n c)).below (below_alloc (w.alloc (.cells #[.bool true, .slice A n c] 25)) (.cells #[.bool true, .slice A' n' c'] 25))).below (below_alloc ((w.alloc (.cells #[.bool true, .slice A n c] 25)).alloc (.cells #[.bool true, .slice A' n' c'] 25)) (.cells #[.bool false, .slice none 0 0] 25))).below (below_alloc (((w.alloc (.cells #[.bool true, .slice A n c] 25)).alloc (.cells #[.bool true, .slice A' n' c'] 25)).alloc (.cells #[.bool false, .slice none 0 0] 25)) (.cells #[.bool false, .slice none 0 0] 25)))
  have kb := (((Bx.new (w.alloc (.cells #[.bool true, .slice A n c] 25)) (w.heap.size + 1) (by simp) (.bool true) (.slice A' n' c')).below (below_alloc ((w.alloc (.cells #[.bool true, .slice A n c] 25)).alloc (.cells #[.bool true, .slice A' n' c'] 25)) (.cells #[.bool false, .slice none 0 0] 25))).below (below_alloc (((w.alloc (.cells #[.bool true, .slice A n c] 25)).alloc (.cells #[.bool true, .slice A' n' c'] 25)).alloc (.cells #[.bool false, .slice none 0 0] 25)) (.cells #[.bool false, .slice none 0 0] 25)))
  have kq := ((Rx.new ((w.alloc (.cells #[.bool true, .slice A n c] 25)).alloc (.cells #[.bool true, .slice A' n' c'] 25)) (w.heap.size + 1 + 1) (by simp)).below (below_alloc (((w.alloc (.cells #[.bool true, .slice A n c] 25)).alloc (.cells #[.bool true, .slice A' n' c'] 25)).alloc (.cells #[.bool false, .slice none 0 0] 25)) (.cells #[.bool false, .slice none 0 0] 25)))
  have kr := (Rx.new (((w.alloc (.cells #[.bool true, .slice A n c] 25)).alloc (.cells #[.bool true, .slice A' n' c'] 25)).alloc (.cells #[.bool false, .slice none 0 0] 25)) (w.heap.size + 1 + 1 + 1) (by simp))
  go_enter Tryz.func63, Tryz.ntmps63
  have ka0 := ka.1
  have ka1 := ka.2
  have kb0 := kb.1
  have kb1 := kb.2
  have kq0 := kq.1
  have kq1 := kq.2.1
  have kq2 := kq.2.2.1
  have kq3 := kq.2.2.2
  have kr0 := kr.1
  have kr1 := kr.2.1
  have kr2 := kr.2.2.1
  have kr3 := kr.2.2.2
  go_wp2_with fail
  refine (div_n hm hm' (by omega) H.out).mono ?_
  clear ka0 ka1 kb0 kb1 kq0 kq1 kq2 kq3 kr0 kr1 kr2 kr3
  rintro e w1 ⟨v1, v2, rfl, z1, z2, bb⟩
  have hm := hm.below bb
  have hm' := hm'.below bb
  have ka := ka.below bb
  have kb := kb.below bb
  have kq := kq.below bb
  have kr := kr.below bb
  have B0 := B0.trans (bb.mono B0.size)
  clear bb
  obtain ⟨A2, n2, c2, rfl, _, _⟩ := z2.nm.form
  have hn2 : 0 < n2 := by have h1 := z2.len0.1.1; have h2 := H'.out; omega
  have ka0 := ka.1
  have ka1 := ka.2
  have kb0 := kb.1
  have kb1 := kb.2
  have kq0 := kq.1
  have kq1 := kq.2.1
  have kq2 := kq.2.2.1
  have kq3 := kq.2.2.2
  have kr0 := kr.1
  have kr1 := kr.2.1
  have kr2 := kr.2.2.1
  have kr3 := kr.2.2.2
  go_wp2_with fail
  refine (of_z 1 1 rfl (by omega)).mono ?_
  clear ka0 ka1 kb0 kb1 kq0 kq1 kq2 kq3 kr0 kr1 kr2 kr3
  rintro e w2 ⟨v3, rfl, z3, bb⟩
  have hm' := hm'.below bb
  have ka := ka.below bb
  have kb := kb.below bb
  have kq := kq.below bb
  have kr := kr.below bb
  have z1 := z1.below bb
  have z2 := z2.below bb
  have B0 := B0.trans (bb.mono B0.size)
  clear bb
  have ka0 := ka.1
  have ka1 := ka.2
  have kb0 := kb.1
  have kb1 := kb.2
  have kq0 := kq.1
  have kq1 := kq.2.1
  have kq2 := kq.2.2.1
  have kq3 := kq.2.2.2
  have kr0 := kr.1
  have kr1 := kr.2.1
  have kr2 := kr.2.2.1
  have kr3 := kr.2.2.2
  go_wp2_with fail
  refine (add_n z1.nm z3.nm (by omega) (by omega)).mono ?_
  clear ka0 ka1 kb0 kb1 kq0 kq1 kq2 kq3 kr0 kr1 kr2 kr3
  rintro e w3 ⟨v4, rfl, z4, bb⟩
  have hm' := hm'.below bb
  have ka := ka.below bb
  have kb := kb.below bb
  have kq := kq.below bb
  have kr := kr.below bb
  have z1 := z1.below bb
  have z2 := z2.below bb
  have z3 := z3.below bb
  have B0 := B0.trans (bb.mono B0.size)
  clear bb
  have ka0 := ka.1
  have ka1 := ka.2
  have kb0 := kb.1
  have kb1 := kb.2
  have kq0 := kq.1
  have kq1 := kq.2.1
  have kq2 := kq.2.2.1
  have kq3 := kq.2.2.2
  have kr0 := kr.1
  have kr1 := kr.2.1
  have kr2 := kr.2.2.1
  have kr3 := kr.2.2.2
  go_wp2_with fail
  refine (sub_n hm' z2.nm (by omega) H2.out).mono ?_
  clear ka0 ka1 kb0 kb1 kq0 kq1 kq2 kq3 kr0 kr1 kr2 kr3
  rintro e w4 ⟨v5, rfl, z5, bb⟩
  have hm' := hm'.below bb
  have ka := ka.below bb
  have kb := kb.below bb
  have kq := kq.below bb
  have kr := kr.below bb
  have z2 := z2.below bb
  have z4 := z4.below bb
  have B0 := B0.trans (bb.mono B0.size)
  clear bb
  have z4 := z4.wide' (k' := k + 3) (by omega)
  have ka0 := ka.1
  have ka1 := ka.2
  have kb0 := kb.1
  have kb1 := kb.2
  have kq0 := kq.1
  have kq1 := kq.2.1
  have kq2 := kq.2.2.1
  have kq3 := kq.2.2.2
  have kr0 := kr.1
  have kr1 := kr.2.1
  have kr2 := kr.2.2.1
  have kr3 := kr.2.2.2
  go_wp2_with fail
  refine (signed_i false z4 _ rfl).mono ?_
  clear ka0 ka1 kb0 kb1 kq0 kq1 kq2 kq3 kr0 kr1 kr2 kr3
  rintro e w5 ⟨vq, rfl, zq, bb⟩
  have ka := ka.below bb
  have kb := kb.below bb
  have kq := kq.below bb
  have kr := kr.below bb
  have z4 := z4.below bb
  have z5 := z5.below bb
  have B0 := B0.trans (bb.mono B0.size)
  clear bb
  obtain ⟨bq, Aq, nq, cq, rfl, zq⟩ := zq.cells
  have ka0 := ka.1
  have ka1 := ka.2
  have kb0 := kb.1
  have kb1 := kb.2
  have kq0 := kq.1
  have kq1 := kq.2.1
  have kq2 := kq.2.2.1
  have kq3 := kq.2.2.2
  have kr0 := kr.1
  have kr1 := kr.2.1
  have kr2 := kr.2.2.1
  have kr3 := kr.2.2.2
  go_wp2_with fail
  refine (signed_i false z5 _ rfl).mono ?_
  clear ka0 ka1 kb0 kb1 kq0 kq1 kq2 kq3 kr0 kr1 kr2 kr3
  rintro e w6 ⟨vr, rfl, zr, bb⟩
  have ka := ka.below bb
  have kb := kb.below bb
  have kq := kq.below bb
  have kr := kr.below bb
  have z4 := z4.below bb
  have z5 := z5.below bb
  have zq := zq.below bb
  have B0 := B0.trans (bb.mono B0.size)
  clear bb
  obtain ⟨br, Ar, nr, cr, rfl, zr⟩ := zr.cells
  have ka0 := ka.1
  have ka1 := ka.2
  have kb0 := kb.1
  have kb1 := kb.2
  have kq0 := kq.1
  have kq1 := kq.2.1
  have kq2 := kq.2.2.1
  have kq3 := kq.2.2.2
  have kr0 := kr.1
  have kr1 := kr.2.1
  have kr2 := kr.2.2.1
  have kr3 := kr.2.2.2
  go_wp2
  refine bodyPost_ret (v := .tuple #[.agg #[.bool bq, .slice Aq nq cq], .agg #[.bool br, .slice Ar nr cr], .bool true]) (by simp [results, Tryz.results63, go_sem, kq0, kq1, kr0, kr1]) rfl ⟨_, _, rfl, (zq.ret kq _ _).ret (kr.ret (by omega) _ _) _ _, (zr.ret kq _ _).ret (kr.ret (by omega) _ _) _ _, below_ret (below_ret B0 (by omega) _ _) (by omega) _ _⟩
/-- What the quotient and the remainder are: said of signs and magnitudes. -/
theorem ediv_of {z y q r : Int} (hy : y ≠ 0) (h : z = q * y + r) (h0 : 0 ≤ r) (h1 : r < y.natAbs) : q = z / y ∧ r = z % y := by
  have e1 := Int.mul_ediv_add_emod z y
  have e2 := Int.emod_nonneg z hy
  have e3 := Int.emod_lt z hy
  have e4 : (q - z / y) * y = z % y - r := by rw [Int.sub_mul]; rw [Int.mul_comm y] at e1; omega
  have e5 : q = z / y := by
    rcases Int.lt_trichotomy (q - z / y) 0 with hlt | heq | hgt
    · have h3 : (y.natAbs : Int) ≤ ((q - z / y) * y).natAbs := by
        rw [Int.natAbs_mul]
        have : 1 ≤ (q - z / y).natAbs := by omega
        exact_mod_cast Nat.le_mul_of_pos_left _ this
      rw [e4] at h3
      omega
    · omega
    · have h3 : (y.natAbs : Int) ≤ ((q - z / y) * y).natAbs := by
        rw [Int.natAbs_mul]
        have : 1 ≤ (q - z / y).natAbs := by omega
        exact_mod_cast Nat.le_mul_of_pos_left _ this
      rw [e4] at h3
      omega
  refine ⟨e5, ?_⟩
  rw [e5, Int.sub_self, Int.zero_mul] at e4
  omega
theorem sgn_abs (b : Bool) (m : Nat) : (sgn b m).natAbs = m := by cases b <;> simp [sgn]
theorem div_p (b c : Bool) (m m' : Nat) (h : 0 < m') (hb : b = false ∨ m % m' = 0) : sgn (!(b == c)) (m / m') = sgn b m / sgn c m' ∧ sgn false (m % m') = sgn b m % sgn c m' := by
  have e := Nat.mod_add_div m m'
  have hl := Nat.mod_lt m h
  have hz : ((m' * (m / m') : Nat) : Int) = (m' : Int) * ((m / m' : Nat) : Int) := by push_cast; rfl
  refine ediv_of ?_ ?_ ?_ ?_
  · cases c <;> simp [sgn] <;> omega
  · generalize m / m' = q at *
    generalize m % m' = r at *
    have e' : (m : Int) = (q : Int) * (m' : Int) + r := by rw [Int.mul_comm]; omega
    cases b <;> cases c <;> simp [sgn, Int.neg_mul, Int.mul_neg] at hb ⊢ <;> omega
  · rw [sgn_false]; omega
  · rw [sgn_abs, sgn_false]; omega
theorem div_m (c : Bool) (m m' : Nat) (h : 0 < m') : sgn (!(true == c)) (m / m' + 1) = sgn true m / sgn c m' ∧ (0 < m % m' → sgn false (m' - m % m') = sgn true m % sgn c m') ∨ m % m' = 0 := by
  rcases Nat.eq_zero_or_pos (m % m') with h0 | h0
  · exact .inr h0
  refine .inl ?_
  have e := Nat.mod_add_div m m'
  have hl := Nat.mod_lt m h
  have hz : ((m' * (m / m') : Nat) : Int) = (m' : Int) * ((m / m' : Nat) : Int) := by push_cast; rfl
  have key := ediv_of (z := sgn true m) (y := sgn c m') (q := sgn (!(true == c)) (m / m' + 1)) (r := sgn false (m' - m % m')) ?_ ?_ ?_ ?_
  · exact ⟨key.1, fun _ => key.2⟩
  · cases c <;> simp [sgn] <;> omega
  · generalize m / m' = q at *
    generalize m % m' = r at *
    have e' : (m : Int) = (q : Int) * (m' : Int) + r := by rw [Int.mul_comm]; omega
    cases c <;> simp [sgn, Int.neg_mul, Int.mul_neg, Int.add_mul] <;> omega
  · rw [sgn_false]; omega
  · rw [sgn_abs, sgn_false]; omega
theorem idiv_i {w : World} {v u : Value} {z y : Int} {k j : Nat} (h : Iv w v z k) (hu : Iv w u y j) (hk : k ≤ 400) (hj : j ≤ 400) (hy : y ≠ 0) : Calls Tryz.prog 63 #[v, u] w (IDEnd (z / y) (z % y) (k + 3) j w) := by
  obtain ⟨b, A, n, c, m, rfl, hm, rfl⟩ := h
  obtain ⟨b', A', n', c', m', rfl, hm', rfl⟩ := hu
  have hp : 0 < m' := by
    rcases Nat.eq_zero_or_pos m' with h | h
    · subst h; exact absurd (sgn_zero b') hy
    · exact h
  have wide : ∀ q r, ∀ e w', IDEnd q r k j w e w' → IDEnd q r (k + 3) j w e w' := fun q r e w' ⟨v1, v2, h1, h2, h3⟩ => ⟨v1, v2, h1, h2.wide (by omega), h3⟩
  by_cases hb : b = false ∨ m % m' = 0
  · have e := div_p b b' m m' hp hb
    rw [← e.1, ← e.2]
    refine Calls.mono ?_ (wide _ _)
    cases b
    · cases b'
      · exact idiv_p_false hm hm' hk hj hp
      · exact idiv_p_true hm hm' hk hj hp
    · have h0 : m % m' = 0 := by simpa using hb
      cases b'
      · exact idiv_e_false hm hm' hk hj hp h0
      · exact idiv_e_true hm hm' hk hj hp h0
  · have h0 : 0 < m % m' := by omega
    obtain rfl : b = true := by cases b <;> simp_all
    rcases div_m b' m m' hp with e | e
    · rw [← e.1, ← e.2 h0]
      cases b'
      · exact idiv_m_false hm hm' hk hj hp h0
      · exact idiv_m_true hm hm' hk hj hp h0
    · omega
theorem idiv_i0 {w : World} {v u : Value} {z y : Int} {k j : Nat} (h : Iv w v z k) (hu : Iv w u y j) (hk : k ≤ 400) (hj : j ≤ 400) (hy : y = 0) : Calls Tryz.prog 63 #[v, u] w (ID0End w) := by
  obtain ⟨b, A, n, c, m, rfl, hm, rfl⟩ := h
  obtain ⟨b', A', n', c', m', rfl, hm', rfl⟩ := hu
  have h0 : m' = 0 := by have := sgn_abs b' m'; rw [hy] at this; simpa using this.symm
  exact idiv_0 hm hm' hk hj h0
end Go.Proofs.YtohlilgnognmgaaGreatDoor
/-
  What each law's row needs beside its walk: the listed tables hold what their initialisers lay; a slice that came in reads as limbs.
-/
namespace Go.Proofs.YtohlilgnognmgaaGreatDoor
open Go.ChangeShapes Go.WideShapes Go.ChangeAt Go.RowKit
open Go.ChangeMaps (open_string shut_string)

theorem own : ownKnob Tryz.prog.godebug = none := by kernel_rfl
theorem laidOut : laidOutB Tryz.prog = true := by kernel_rfl
def tabs : List (String × DataW Unit) := [("math/bits.deBruijn32tab", Rows.laid_math_bits_deBruijn32tab), ("math/bits.deBruijn64tab", Rows.laid_math_bits_deBruijn64tab), ("internal/strconv.uint64pow10", Rows.laid_internal_strconv_uint64pow10)]
theorem gTab : Tryz.prog.globalNamed "internal/strconv.uint64pow10" = some 1 := by kernel_rfl
theorem gTabType : (Tryz.prog.globals[1]?).map (·.type) = some 140 := by kernel_rfl
/-- The door's own heap meets the condition. -/
theorem door_met (os : Os) (args : Array Value) : laidMetH Tryz.prog tabs ((World.doorLaid Tryz.prog 24 os).forCall (fun _ _ => 0) ⟨#[], args, []⟩).memory :=
  laidMetH_of_parts3 (fuel := 8) (laidMet_of_run' 8 (by kernel_rfl) (by kernel_rfl)) (by kernel_rfl) (by kernel_rfl)
theorem tab_of {W : World} (h : laidMetH Tryz.prog tabs W) : Tab W := by
  rw [MakeChecks.laidMetH_plain _ _ _ (by kernel_rfl)] at h
  obtain ⟨ps, ⟨g0, t0, cs0, f0, p0, q0, hg0, ht0, hv0, hd0, ⟨g1, t1, cs1, f1, p1, q1, hg1, ht1, hv1, hd1, ⟨g2, t2, cs2, f2, p2, q2, hg2, ht2, hv2, hd2, _, _⟩, _⟩, _⟩, _, _⟩ := h
  obtain rfl := Option.some.inj (gTab.symm.trans hg2)
  obtain rfl := Option.some.inj (gTabType.symm.trans ht2)
  have hc := Lib.cells_of_tab (k := .u64) (zs := Lib.pow10Tab) Tryz.underlying140 Tryz.underlying75 (by kernel_rfl) (by kernel_rfl) hd2
  unfold Tab Lib.TabIs
  rw [hv2, ← hc]

/-- A slice of 32-bit numbers that came in: nil, or a row of its capacity. -/
def IsRow (w : World) (a : Option Addr) (len cap : Nat) (zs : List Int) : Prop :=
  (a = none ∧ len = 0 ∧ cap = 0 ∧ zs = []) ∨
  ∃ x, a = some x ∧ len ≤ cap ∧ cap ≤ maxLen ∧ zs.length = cap ∧ (∀ i, i < zs.length → w.cell? (x.add i) = some (.int .u32 (zs.getD i 0))) ∧ ∀ n ∈ zs, (Lit.int .u32 n).wf = true
theorem wf_u32 {z : Int} (h : (Lit.int .u32 z).wf = true) : 0 ≤ z ∧ z < 4294967296 := by
  have := bounds_u32 h
  omega
theorem IsRow.rd {w : World} {a : Option Addr} {len cap : Nat} {zs : List Int} (h : IsRow w a len cap zs) : ∃ l : List Nat, l.length = len ∧ Rd w (fun _ => True) (.slice a len cap) l := by
  rcases h with ⟨rfl, rfl, rfl, rfl⟩ | ⟨x, rfl, hl, hm, hz, hc, hw⟩
  · exact ⟨[], rfl, Rd.nil _ _⟩
  · have e : ((zs.take len).map Int.toNat).length = len := by rw [List.length_map, List.length_take]; omega
    have hat : ∀ (j u : Nat), ((zs.take len).map Int.toNat)[j]? = some u → ∃ z, zs[j]? = some z ∧ u = z.toNat := fun j u hu => by
      rw [List.getElem?_map, List.getElem?_take] at hu
      split at hu
      · cases hz : zs[j]? with
        | none => rw [hz] at hu; cases hu
        | some z => rw [hz] at hu; injection hu with hu; exact ⟨z, rfl, hu.symm⟩
      · cases hu
    refine ⟨(zs.take len).map Int.toNat, e, _, cap, by rw [e], by rw [e]; exact hl, by unfold maxLen at hm; omega, fun u hu => ?_, fun hpos => ?_⟩
    · obtain ⟨j, hj⟩ := List.getElem?_of_mem hu
      obtain ⟨z, hz1, rfl⟩ := hat j u hj
      have := wf_u32 (hw z (List.mem_of_getElem? hz1))
      rw [Num.K_eq]
      omega
    · rw [e] at hpos
      obtain ⟨b, off, rfl, hcell⟩ := ints_at hc (by omega)
      refine ⟨b, off, rfl, trivial, fun j u hu => ?_⟩
      obtain ⟨z, hz1, rfl⟩ := hat j u hu
      have hj := (List.getElem?_eq_some_iff.1 hz1).1
      have h1 := hcell j hj
      have h2 := wf_u32 (hw z (List.mem_of_getElem? hz1))
      rw [h1, List.getD_eq_getElem?_getD, hz1]
      simp
      omega
end Go.Proofs.YtohlilgnognmgaaGreatDoor
