/-
  Integers as values: 'Iv w v z k': the value v reads in the world w as the integer z, its magnitude in at most k limbs; 'Iz': in normal form besides. Boxes of two cells: 'Bx' (what a variable holds), 'Rx' (a result's variable, not written yet).
-/
import Derived.Test.YthcoemkbdllcfaaDoorNumK
import Derived.Lib.SmallJoins
import Derived.Deep.RegionHeld3
import Derived.Deep.DrawnRows
namespace Go.Proofs.YthcoemkbdllcfaaDoor
open Go.RowKit

def sgn (b : Bool) (m : Nat) : Int := if b then -(m : Int) else m
theorem sgn_true (m : Nat) : sgn true m = -(m : Int) := rfl
theorem sgn_false (m : Nat) : sgn false m = (m : Int) := rfl
theorem sgn_zero (b : Bool) : sgn b 0 = 0 := by cases b <;> rfl
def Iv (w : World) (v : Value) (z : Int) (k : Nat) : Prop := ∃ b A n c m, v = .agg #[.bool b, .slice A n c] ∧ Nm w (.slice A n c) m k ∧ z = sgn b m
def Iz (w : World) (v : Value) (z : Int) (k : Nat) : Prop := ∃ b A n c m, v = .agg #[.bool b, .slice A n c] ∧ Nz w (.slice A n c) m k ∧ z = sgn b m ∧ (m = 0 → b = false)
/-- A call returns the integer z in normal form, at most k limbs; what was there is as it was. -/
def IEnd (z : Int) (k : Nat) (w : World) (e : Ending) (w' : World) : Prop := ∃ v, e = .returned v ∧ Iz w' v z k ∧ Below w.heap.size w w'
theorem Iz.iv {w : World} {v : Value} {z : Int} {k : Nat} (h : Iz w v z k) : Iv w v z k := by
  obtain ⟨b, A, n, c, m, rfl, h1, h2, _⟩ := h
  exact ⟨b, A, n, c, m, rfl, h1.nm, h2⟩
theorem Iv.below {w w' : World} {v : Value} {z : Int} {k : Nat} (h : Iv w v z k) (hb : Below w.heap.size w w') : Iv w' v z k := by
  obtain ⟨b, A, n, c, m, rfl, h1, h2⟩ := h
  exact ⟨b, A, n, c, m, rfl, h1.below hb, h2⟩
theorem Iz.below {w w' : World} {v : Value} {z : Int} {k : Nat} (h : Iz w v z k) (hb : Below w.heap.size w w') : Iz w' v z k := by
  obtain ⟨b, A, n, c, m, rfl, h1, h2⟩ := h
  exact ⟨b, A, n, c, m, rfl, h1.below hb, h2⟩
theorem Iv.drew {w : World} {v : Value} {z : Int} {k : Nat} (h : Iv w v z k) : Iv w.drew v z k := h
theorem Iz.drew {w : World} {v : Value} {z : Int} {k : Nat} (h : Iz w v z k) : Iz w.drew v z k := h
theorem Nm.drew {w : World} {v : Value} {m k : Nat} (h : Nm w v m k) : Nm w.drew v m k := h
theorem Nz.drew {w : World} {v : Value} {m k : Nat} (h : Nz w v m k) : Nz w.drew v m k := h
theorem b_drew {w w' : World} {B : Nat} (h : Below B w w') : Below B w w'.drew := ⟨h.os, h.tape, h.output, h.size, h.block⟩
theorem Nz.wide' {w : World} {v : Value} {m k k' : Nat} (h : Nz w v m k) (hk : k ≤ k') : Nz w v m k' := by
  obtain ⟨l, h1, h2, h3, h4⟩ := h
  exact ⟨l, h1, h2, h3, by omega⟩
theorem Iz.wide {w : World} {v : Value} {z : Int} {k k' : Nat} (h : Iz w v z k) (hk : k ≤ k') : Iz w v z k' := by
  obtain ⟨b, A, n, c, m, rfl, h1, h2⟩ := h
  exact ⟨b, A, n, c, m, rfl, h1.wide' hk, h2⟩
theorem Nz.len0 {w : World} {A : Option Addr} {n c m k : Nat} (h : Nz w (.slice A n c) m k) : (n = 0 ↔ m = 0) ∧ n ≤ k ∧ n ≤ 9223372036854775807 := by
  obtain ⟨l, ⟨A', c', e, h1, h2, h3, h4⟩, hn, hv, hk⟩ := h
  simp only [Value.slice.injEq] at e
  obtain ⟨-, rfl, -⟩ := e
  refine ⟨⟨fun h => ?_, fun h => ?_⟩, hk, by omega⟩
  · rw [← hv, List.eq_nil_of_length_eq_zero h]; rfl
  · rw [h] at hv
    rw [hn.eq_nil hv]; rfl
theorem Nm.form {w : World} {v : Value} {m k : Nat} (h : Nm w v m k) : ∃ A n c, v = .slice A n c ∧ n ≤ k ∧ n ≤ 9223372036854775807 := by
  obtain ⟨l, ⟨A', c', e, h1, h2, h3, h4⟩, hv, hk⟩ := h
  exact ⟨A', _, c', e, hk, by omega⟩
theorem Iz.mk {w : World} {A : Option Addr} {n c m k : Nat} (b : Bool) (h : Nz w (.slice A n c) m k) (z : Int) (hz : z = sgn b m) : Iz w (.agg #[.bool (b && decide (0 < n)), .slice A n c]) z k := by
  have h0 := h.len0.1
  refine ⟨_, A, n, c, m, rfl, h, ?_, fun e => ?_⟩
  · rw [hz]
    by_cases hn : n = 0
    · rw [h0.1 hn, sgn_zero, sgn_zero]
    · rw [decide_eq_true (by omega : 0 < n), Bool.and_true]
  · rw [decide_eq_false (by have := h0.2 e; omega), Bool.and_false]
/-- A result, its cells by name. -/
theorem Iz.cells {w : World} {v : Value} {z : Int} {k : Nat} (h : Iz w v z k) : ∃ b A n c, v = .agg #[.bool b, .slice A n c] ∧ Iz w (.agg #[.bool b, .slice A n c]) z k := by
  obtain ⟨b, A, n, c, m, rfl, h1⟩ := h
  exact ⟨b, A, n, c, rfl, b, A, n, c, m, rfl, h1⟩
theorem Iz.parts {w : World} {b : Bool} {A : Option Addr} {n c k : Nat} {z : Int} (h : Iz w (.agg #[.bool b, .slice A n c]) z k) : ∃ m, Nz w (.slice A n c) m k ∧ z = sgn b m ∧ (m = 0 → b = false) := by
  obtain ⟨b', A', n', c', m, e, h1, h2, h3⟩ := h
  simp only [Value.agg.injEq, Array.mk.injEq, List.cons.injEq, Value.bool.injEq, Value.slice.injEq, and_true] at e
  obtain ⟨rfl, rfl, rfl, rfl⟩ := e
  exact ⟨m, h1, h2, h3⟩
theorem Iz.eq {w : World} {v u : Value} {z y : Int} {k j : Nat} (h : Iz w v z k) (hu : Iz w u y j) (e : z = y) : ∃ b A n c B m d l, v = .agg #[.bool b, .slice A n c] ∧ u = .agg #[.bool b, .slice B m d] ∧ Rd w (fun _ => True) (.slice A n c) l ∧ Rd w (fun _ => True) (.slice B m d) l := by
  obtain ⟨b, A, n, c, m, rfl, ⟨l, h1, h2, h3, _⟩, h5, h6⟩ := h
  obtain ⟨b', A', n', c', m', rfl, ⟨l', h1', h2', h3', _⟩, h5', h6'⟩ := hu
  have hm : m = m' ∧ b = b' := by
    rw [h5, h5'] at e
    cases b <;> cases b' <;> simp only [sgn_true, sgn_false] at e <;> simp at h6 h6' ⊢ <;> omega
  obtain ⟨rfl, rfl⟩ := hm
  have e := Num.Nrm.inj h1.lim h1'.lim h2 h2' (h3.trans h3'.symm)
  subst e
  exact ⟨b, A, n, c, A', n', c', l, rfl, rfl, h1, h1'⟩

def Bx (w : World) (g : Nat) (v0 v1 : Value) : Prop := w.cell? ⟨g, 0, none⟩ = some v0 ∧ w.cell? ⟨g, 1, none⟩ = some v1
theorem Bx.below {w w' : World} {g : Nat} {v0 v1 : Value} (h : Bx w g v0 v1) (hb : Below w.heap.size w w') : Bx w' g v0 v1 :=
  ⟨by rw [hb.cell (World.block_lt_of_cell? w _ h.1)]; exact h.1, by rw [hb.cell (World.block_lt_of_cell? w _ h.2)]; exact h.2⟩
theorem Bx.ret {w : World} {g r : Nat} {v0 v1 : Value} (h : Bx w g v0 v1) (hne : g ≠ r) (a b : Value) : Bx ((w.setCell ⟨r, 0, none⟩ a).setCell ⟨r, 1, none⟩ b) g v0 v1 := by
  have e : ∀ i j : Nat, (⟨r, i, none⟩ : Addr) ≠ ⟨g, j, none⟩ := fun i j h => hne (Addr.mk.inj h).1.symm
  exact ⟨(World.cell?_setCell_other _ _ _ _ (e _ _)).trans ((World.cell?_setCell_other _ _ _ _ (e _ _)).trans h.1), (World.cell?_setCell_other _ _ _ _ (e _ _)).trans ((World.cell?_setCell_other _ _ _ _ (e _ _)).trans h.2)⟩
theorem Bx.drew {w : World} {g : Nat} {v0 v1 : Value} (h : Bx w g v0 v1) : Bx w.drew g v0 v1 := h
theorem Bx.new (w : World) (g : Nat) (hg : g = w.heap.size) (v0 v1 : Value) : Bx (w.alloc (.cells #[v0, v1] 25)) g v0 v1 := by
  subst hg
  exact ⟨by simp, by simp⟩
theorem below_a1 (w : World) (o : Obj) : Below w.heap.size w (w.alloc o) := below_alloc w o
theorem below_a2 (w : World) (o p : Obj) : Below w.heap.size w ((w.alloc o).alloc p) := (below_a1 w o).trans ((below_alloc _ p).mono (below_a1 w o).size)
theorem below_a3 (w : World) (o p q : Obj) : Below w.heap.size w (((w.alloc o).alloc p).alloc q) := (below_a2 w o p).trans ((below_alloc _ q).mono (below_a2 w o p).size)
theorem below_a4 (w : World) (o p q r : Obj) : Below w.heap.size w ((((w.alloc o).alloc p).alloc q).alloc r) := (below_a3 w o p q).trans ((below_alloc _ r).mono (below_a3 w o p q).size)
theorem Bx.later {w : World} {g : Nat} {v0 v1 : Value} (h : Bx w g v0 v1) (o : Obj) : Bx (w.alloc o) g v0 v1 := h.below (below_alloc w o)
def Rx (w : World) (g : Nat) : Prop := w.cell? ⟨g, 0, none⟩ = some (.bool false) ∧ w.cell? ⟨g, 1, none⟩ = some (.slice none 0 0) ∧ w.frozen? ⟨g, 0, none⟩ = false ∧ w.frozen? ⟨g, 1, none⟩ = false
theorem Rx.new (w : World) (g : Nat) (hg : g = w.heap.size) : Rx (w.alloc (.cells #[.bool false, .slice none 0 0] 25)) g := by
  subst hg
  exact ⟨by simp, by simp, by simp, by simp⟩
theorem Rx.below {w w' : World} {g : Nat} (h : Rx w g) (hb : Below w.heap.size w w') : Rx w' g := by
  have hg : g < w.heap.size := World.block_lt_of_cell? w _ h.1
  exact ⟨(hb.cell (p := ⟨g, 0, none⟩) hg).trans h.1, (hb.cell (p := ⟨g, 1, none⟩) hg).trans h.2.1, (hb.frozen (p := ⟨g, 0, none⟩) hg).trans h.2.2.1, (hb.frozen (p := ⟨g, 1, none⟩) hg).trans h.2.2.2⟩
theorem Rx.ret {w : World} {g r : Nat} (h : Rx w g) (hne : g ≠ r) (a b : Value) : Rx ((w.setCell ⟨r, 0, none⟩ a).setCell ⟨r, 1, none⟩ b) g := by
  have e : ∀ i j : Nat, (⟨r, i, none⟩ : Addr) ≠ ⟨g, j, none⟩ := fun i j h => hne (Addr.mk.inj h).1.symm
  obtain ⟨h1, h2, h3, h4⟩ := h
  exact ⟨(World.cell?_setCell_other _ _ _ _ (e _ _)).trans ((World.cell?_setCell_other _ _ _ _ (e _ _)).trans h1), (World.cell?_setCell_other _ _ _ _ (e _ _)).trans ((World.cell?_setCell_other _ _ _ _ (e _ _)).trans h2), by simpa using h3, by simpa using h4⟩
theorem Rx.over {w : World} {g : Nat} (h : Rx w g) : (∀ o, (w.alloc o).cell? ⟨g, 0, none⟩ = some (.bool false)) ∧ (∀ o, (w.alloc o).cell? ⟨g, 1, none⟩ = some (.slice none 0 0)) ∧ (∀ o, (w.alloc o).frozen? ⟨g, 0, none⟩ = false) ∧ (∀ o, (w.alloc o).frozen? ⟨g, 1, none⟩ = false) :=
  ⟨fun o => (h.below (below_alloc _ o)).1, fun o => (h.below (below_alloc _ o)).2.1, fun o => (h.below (below_alloc _ o)).2.2.1, fun o => (h.below (below_alloc _ o)).2.2.2⟩
theorem Rx.apart {w : World} {g : Nat} (h : Rx w g) : g < w.heap.size ∧ g ≠ w.heap.size ∧ w.heap.size ≠ g := by
  have : g < w.heap.size := World.block_lt_of_cell? w _ h.1
  omega
theorem Rx.drew {w : World} {g : Nat} (h : Rx w g) : Rx w.drew g := h
/-- What is no limb can be written without harm to a number. -/
def NoInt (v : Value) : Prop := ∀ k i, v ≠ .int k i
theorem NoInt.bool (b : Bool) : NoInt (.bool b) := fun _ _ h => by cases h
theorem NoInt.slice (A : Option Addr) (n c : Nat) : NoInt (.slice A n c) := fun _ _ h => by cases h
theorem CelAt.put {w : World} {g off : Nat} {l : List Nat} {p : Addr} {x : Value} (h : CelAt w g off l) (hp : w.cell? p = some x) (hx : NoInt x) (u : Value) : CelAt (w.setCell p u) g off l := fun j y hy => by
  have := h j y hy
  rw [World.cell?_setCell_other]
  · exact this
  · rintro rfl
    rw [hp] at this
    exact hx _ _ (Option.some.inj this)
theorem Rd.put {w : World} {S : Nat → Prop} {v : Value} {l : List Nat} {p : Addr} {x : Value} (h : Rd w S v l) (hp : w.cell? p = some x) (hx : NoInt x) (u : Value) : Rd (w.setCell p u) S v l := by
  obtain ⟨A, c, e, h1, h2, h3, h4⟩ := h
  refine ⟨A, c, e, h1, h2, h3, fun hl => ?_⟩
  obtain ⟨g, off, e, hs, hc⟩ := h4 hl
  exact ⟨g, off, e, hs, hc.put hp hx u⟩
theorem Nz.put {w : World} {v : Value} {m k : Nat} {p : Addr} {x : Value} (h : Nz w v m k) (hp : w.cell? p = some x) (hx : NoInt x) (u : Value) : Nz (w.setCell p u) v m k := by
  obtain ⟨l, h1, h2, h3, h4⟩ := h
  exact ⟨l, h1.put hp hx u, h2, h3, h4⟩
theorem Nm.put {w : World} {v : Value} {m k : Nat} {p : Addr} {x : Value} (h : Nm w v m k) (hp : w.cell? p = some x) (hx : NoInt x) (u : Value) : Nm (w.setCell p u) v m k := by
  obtain ⟨l, h1, h2, h3⟩ := h
  exact ⟨l, h1.put hp hx u, h2, h3⟩
theorem Iz.put {w : World} {v : Value} {z : Int} {k : Nat} {p : Addr} {x : Value} (h : Iz w v z k) (hp : w.cell? p = some x) (hx : NoInt x) (u : Value) : Iz (w.setCell p u) v z k := by
  obtain ⟨b, A, n, c, m, rfl, h1, h2⟩ := h
  exact ⟨b, A, n, c, m, rfl, h1.put hp hx u, h2⟩
theorem Iv.put {w : World} {v : Value} {z : Int} {k : Nat} {p : Addr} {x : Value} (h : Iv w v z k) (hp : w.cell? p = some x) (hx : NoInt x) (u : Value) : Iv (w.setCell p u) v z k := by
  obtain ⟨b, A, n, c, m, rfl, h1, h2⟩ := h
  exact ⟨b, A, n, c, m, rfl, h1.put hp hx u, h2⟩
/-- The result's variable written. -/
theorem Iz.ret {w : World} {v : Value} {z : Int} {k g : Nat} (h : Iz w v z k) (hr : Rx w g) (a b : Value) : Iz ((w.setCell ⟨g, 0, none⟩ a).setCell ⟨g, 1, none⟩ b) v z k := by
  refine (h.put hr.1 (NoInt.bool _) a).put (x := .slice none 0 0) ?_ (NoInt.slice _ _ _) b
  exact (World.cell?_setCell_other _ _ _ _ (by simp)).trans hr.2.1
theorem below_ret {w0 w : World} {B g : Nat} (h : Below B w0 w) (hg : B ≤ g) (a b : Value) : Below B w0 ((w.setCell ⟨g, 0, none⟩ a).setCell ⟨g, 1, none⟩ b) := (h.setCell (p := ⟨g, 0, none⟩) hg a).setCell (p := ⟨g, 1, none⟩) hg b
theorem Iz.later {w : World} {v : Value} {z : Int} {k : Nat} (h : Iz w v z k) (o : Obj) : Iz (w.alloc o) v z k := h.below (below_alloc w o)
theorem Iv.later {w : World} {v : Value} {z : Int} {k : Nat} (h : Iv w v z k) (o : Obj) : Iv (w.alloc o) v z k := h.below (below_alloc w o)
theorem Iv.ret {w : World} {v : Value} {z : Int} {k g : Nat} (h : Iv w v z k) (hr : Rx w g) (a b : Value) : Iv ((w.setCell ⟨g, 0, none⟩ a).setCell ⟨g, 1, none⟩ b) v z k := by
  refine (h.put hr.1 (NoInt.bool _) a).put (x := .slice none 0 0) ?_ (NoInt.slice _ _ _) b
  exact (World.cell?_setCell_other _ _ _ _ (by simp)).trans hr.2.1
theorem Rx.written {w : World} {g : Nat} (h : Rx w g) (a b : Value) : Bx ((w.setCell ⟨g, 0, none⟩ a).setCell ⟨g, 1, none⟩ b) g a b :=
  ⟨(World.cell?_setCell_other _ _ _ _ (by simp)).trans (World.cell?_setCell_same _ _ _ h.1), World.cell?_setCell_same (u := .slice none 0 0) _ _ _ ((World.cell?_setCell_other _ _ _ _ (by simp)).trans h.2.1)⟩
/-- From W0 on nothing below B has changed, and there are at least B blocks. -/
def Bw (B : Nat) (W0 W : World) : Prop := Below B W0 W ∧ B ≤ W.heap.size
theorem Bw.up {B : Nat} {W0 W w1 : World} (h : Bw B W0 W) (bb : Below W.heap.size W w1) : Bw B W0 w1 := ⟨h.1.trans (bb.mono h.2), Nat.le_trans h.2 bb.size⟩
theorem Bw.alloc {B : Nat} {W0 W : World} (h : Bw B W0 W) (o : Obj) : Bw B W0 (W.alloc o) := h.up (below_alloc W o)
theorem Bw.drew {B : Nat} {W0 W : World} (h : Bw B W0 W) : Bw B W0 W.drew := ⟨b_drew h.1, h.2⟩
theorem Bw.set {B : Nat} {W0 W : World} (h : Bw B W0 W) (p : Addr) (hp : B ≤ p.block) (u : Value) : Bw B W0 (W.setCell p u) := ⟨h.1.setCell hp u, by simpa [World.setCell] using h.2⟩
theorem Bw.bx {B : Nat} {W0 W : World} {g : Nat} {v0 v1 : Value} (h : Bw B W0 W) (k : Bx W0 g v0 v1) (hg : g < B) : Bx W g v0 v1 := ⟨(h.1.cell (p := ⟨g, 0, none⟩) hg).trans k.1, (h.1.cell (p := ⟨g, 1, none⟩) hg).trans k.2⟩
theorem Bw.rx {B : Nat} {W0 W : World} {g : Nat} (h : Bw B W0 W) (k : Rx W0 g) (hg : g < B) : Rx W g :=
  ⟨(h.1.cell (p := ⟨g, 0, none⟩) hg).trans k.1, (h.1.cell (p := ⟨g, 1, none⟩) hg).trans k.2.1, (h.1.frozen (p := ⟨g, 0, none⟩) hg).trans k.2.2.1, (h.1.frozen (p := ⟨g, 1, none⟩) hg).trans k.2.2.2⟩
/-- 'u, v := f(..), g(..)' has been done: two variables of their own hold the integers z and y; below B all is as it was in W. -/
def Two (B : Nat) (W : World) (z y : Int) (k j : Nat) (s5 s6 : Value) (wx : World) : Prop :=
  ∃ (gx gy : Nat) (b1 : Bool) (A1 : Option Addr) (n1 c1 : Nat) (b2 : Bool) (A2 : Option Addr) (n2 c2 : Nat), s5 = .pointer (some ⟨gx, 0, none⟩) ∧ s6 = .pointer (some ⟨gy, 0, none⟩) ∧
    Bx wx gx (.bool b1) (.slice A1 n1 c1) ∧ Bx wx gy (.bool b2) (.slice A2 n2 c2) ∧ Iz wx (.agg #[.bool b1, .slice A1 n1 c1]) z k ∧ Iz wx (.agg #[.bool b2, .slice A2 n2 c2]) y j ∧ Bw B W wx
theorem Bw.ret {B : Nat} {W0 W : World} {g : Nat} (h : Bw B W0 W) (hg : B ≤ g) (a b : Value) : Bw B W0 ((W.setCell ⟨g, 0, none⟩ a).setCell ⟨g, 1, none⟩ b) := (h.set _ hg a).set _ hg b
end Go.Proofs.YthcoemkbdllcfaaDoor
