/-
  Ratios as values: 'Qv w v x k j': the value v reads in the world w as the rational number x, its numerator in at most k limbs and its denominator in at most j; 'Qz': in normal form besides. Boxes of three cells: 'Bq' (what a variable holds), 'Rq' (a result's variable, not written yet).
-/
import Derived.Test.YtohlilgnognmgaaGreatDoorRatNum
import Derived.Test.YtohlilgnognmgaaGreatDoorJRInt
namespace Go.Proofs.YtohlilgnognmgaaGreatDoor
open Go.RowKit
set_option linter.unusedVariables false

def Qv (w : World) (v : Value) (x : Rat) (k j : Nat) : Prop := ∃ b A n c B m c' z d, v = .agg #[.bool b, .slice A n c, .slice B m c'] ∧ Iv w (.agg #[.bool b, .slice A n c]) z k ∧ Nm w (.slice B m c') d j ∧ x = mkRat z d
def Qz (w : World) (v : Value) (x : Rat) (k j : Nat) : Prop := ∃ b A n c B m c', v = .agg #[.bool b, .slice A n c, .slice B m c'] ∧ Iz w (.agg #[.bool b, .slice A n c]) x.num k ∧ Nz w (.slice B m c') x.den j
/-- A call returns the ratio x in normal form; what was there is as it was. -/
def QEnd (x : Rat) (k j : Nat) (w : World) (e : Ending) (w' : World) : Prop := ∃ b A n c B m c', e = .returned (.agg #[.bool b, .slice A n c, .slice B m c']) ∧ Qz w' (.agg #[.bool b, .slice A n c, .slice B m c']) x k j ∧ Below w.heap.size w w'
/-- A call returns the ratio x in normal form, and true; or a zero value and false. -/
def QbEnd (x : Rat) (k j : Nat) (w : World) (e : Ending) (w' : World) : Prop := ∃ b A n c B m c', e = .returned (.tuple #[.agg #[.bool b, .slice A n c, .slice B m c'], .bool true]) ∧ Qz w' (.agg #[.bool b, .slice A n c, .slice B m c']) x k j ∧ Below w.heap.size w w'
def Q0End (w : World) (e : Ending) (w' : World) : Prop := e = .returned (.tuple #[.agg #[.bool false, .slice none 0 0, .slice none 0 0], .bool false]) ∧ Below w.heap.size w w'
/-- A call returns two integers. -/
def PEnd (z y : Int) (k j : Nat) (w : World) (e : Ending) (w' : World) : Prop := ∃ b1 A1 n1 c1 b2 A2 n2 c2, e = .returned (.tuple #[.agg #[.bool b1, .slice A1 n1 c1], .agg #[.bool b2, .slice A2 n2 c2]]) ∧ Iv w' (.agg #[.bool b1, .slice A1 n1 c1]) z k ∧ Iv w' (.agg #[.bool b2, .slice A2 n2 c2]) y j ∧ Below w.heap.size w w'
/-- A ratio's numerator and its denominator above 0: 0 and 1 where the denominator is 0. -/
def Qp (w : World) (v : Value) (z : Int) (d : Nat) (k j : Nat) : Prop := ∃ b A n c B m c' z0 d0, v = .agg #[.bool b, .slice A n c, .slice B m c'] ∧ Iv w (.agg #[.bool b, .slice A n c]) z0 k ∧ Nm w (.slice B m c') d0 j ∧ z = (if d0 = 0 then 0 else z0) ∧ d = (if d0 = 0 then 1 else d0)
theorem Qv.qp {w : World} {v : Value} {x : Rat} {k j : Nat} (h : Qv w v x k j) : ∃ z d, Qp w v z d k j ∧ 0 < d ∧ (z : Rat) / (d : Rat) = x := by
  obtain ⟨b, A, n, c, B, m, c', z, d, rfl, h1, h2, rfl⟩ := h
  refine ⟨_, _, ⟨b, A, n, c, B, m, c', z, d, rfl, h1, h2, rfl, rfl⟩, ?_, ?_⟩
  · by_cases h0 : d = 0
    · simp [h0]
    · simp only [h0, if_false]; omega
  · by_cases h0 : d = 0
    · subst h0; simp; grind
    · simp only [h0, if_false]; exact (Rat.mkRat_eq_div z d).symm
theorem Qp.below {w w' : World} {v : Value} {z : Int} {d k j : Nat} (h : Qp w v z d k j) (hb : Below w.heap.size w w') : Qp w' v z d k j := by
  obtain ⟨b, A, n, c, B, m, c', z0, d0, rfl, h1, h2, h3⟩ := h
  exact ⟨b, A, n, c, B, m, c', z0, d0, rfl, h1.below hb, h2.below hb, h3⟩
theorem Qp.drew {w : World} {v : Value} {z : Int} {d k j : Nat} (h : Qp w v z d k j) : Qp w.drew v z d k j := h
theorem Qp.cells {w : World} {v : Value} {z : Int} {d k j : Nat} (h : Qp w v z d k j) : ∃ b A n c B m c', v = .agg #[.bool b, .slice A n c, .slice B m c'] ∧ Qp w (.agg #[.bool b, .slice A n c, .slice B m c']) z d k j := by
  obtain ⟨b, A, n, c, B, m, c', z0, d0, rfl, h1⟩ := h
  exact ⟨b, A, n, c, B, m, c', rfl, b, A, n, c, B, m, c', z0, d0, rfl, h1⟩
/-- The magnitude of an integer whose cells are named. -/
theorem Iv.nm_of {w : World} {b : Bool} {A : Option Addr} {n c k : Nat} {z : Int} (h : Iv w (.agg #[.bool b, .slice A n c]) z k) : ∃ x m, (Nm w (.slice A n c) m k ∧ b = x) ∧ z = sgn x m := by
  obtain ⟨b', A', n', c', m, e, h1, h2⟩ := h
  simp only [Value.agg.injEq, Array.mk.injEq, List.cons.injEq, Value.bool.injEq, Value.slice.injEq, and_true] at e
  obtain ⟨rfl, rfl, rfl, rfl⟩ := e
  exact ⟨_, m, ⟨h1, rfl⟩, h2⟩
theorem zero_iv (w : World) (k : Nat) : Iv w (.agg #[.bool false, .slice none 0 0]) 0 k := ⟨false, none, 0, 0, 0, rfl, ⟨[], Rd.nil _ _, rfl, Nat.zero_le _⟩, rfl⟩
theorem Iv.wide {w : World} {v : Value} {z : Int} {k k' : Nat} (h : Iv w v z k) (hk : k ≤ k') : Iv w v z k' := by
  obtain ⟨b, A, n, c, m, rfl, ⟨l, h1, h2, h3⟩, hz⟩ := h
  exact ⟨b, A, n, c, m, rfl, ⟨l, h1, h2, by omega⟩, hz⟩
theorem Qz.qv {w : World} {v : Value} {x : Rat} {k j : Nat} (h : Qz w v x k j) : Qv w v x k j := by
  obtain ⟨b, A, n, c, B, m, c', rfl, h1, h2⟩ := h
  exact ⟨b, A, n, c, B, m, c', _, _, rfl, h1.iv, h2.nm, (RatN.mk_self x).symm⟩
theorem Qv.below {w w' : World} {v : Value} {x : Rat} {k j : Nat} (h : Qv w v x k j) (hb : Below w.heap.size w w') : Qv w' v x k j := by
  obtain ⟨b, A, n, c, B, m, c', z, d, rfl, h1, h2, h3⟩ := h
  exact ⟨b, A, n, c, B, m, c', z, d, rfl, h1.below hb, h2.below hb, h3⟩
theorem Qz.below {w w' : World} {v : Value} {x : Rat} {k j : Nat} (h : Qz w v x k j) (hb : Below w.heap.size w w') : Qz w' v x k j := by
  obtain ⟨b, A, n, c, B, m, c', rfl, h1, h2⟩ := h
  exact ⟨b, A, n, c, B, m, c', rfl, h1.below hb, h2.below hb⟩
theorem Qv.drew {w : World} {v : Value} {x : Rat} {k j : Nat} (h : Qv w v x k j) : Qv w.drew v x k j := h
theorem Qz.drew {w : World} {v : Value} {x : Rat} {k j : Nat} (h : Qz w v x k j) : Qz w.drew v x k j := h
theorem Qz.wide {w : World} {v : Value} {x : Rat} {k j k' j' : Nat} (h : Qz w v x k j) (hk : k ≤ k') (hj : j ≤ j') : Qz w v x k' j' := by
  obtain ⟨b, A, n, c, B, m, c', rfl, h1, h2⟩ := h
  exact ⟨b, A, n, c, B, m, c', rfl, h1.wide hk, h2.wide' hj⟩
theorem Qv.put {w : World} {v : Value} {x : Rat} {k j : Nat} {p : Addr} {y : Value} (h : Qv w v x k j) (hp : w.cell? p = some y) (hx : NoInt y) (u : Value) : Qv (w.setCell p u) v x k j := by
  obtain ⟨b, A, n, c, B, m, c', z, d, rfl, h1, h2, h3⟩ := h
  exact ⟨b, A, n, c, B, m, c', z, d, rfl, h1.put hp hx u, h2.put hp hx u, h3⟩
theorem Qz.put {w : World} {v : Value} {x : Rat} {k j : Nat} {p : Addr} {y : Value} (h : Qz w v x k j) (hp : w.cell? p = some y) (hx : NoInt y) (u : Value) : Qz (w.setCell p u) v x k j := by
  obtain ⟨b, A, n, c, B, m, c', rfl, h1, h2⟩ := h
  exact ⟨b, A, n, c, B, m, c', rfl, h1.put hp hx u, h2.put hp hx u⟩
theorem Qv.later {w : World} {v : Value} {x : Rat} {k j : Nat} (h : Qv w v x k j) (o : Obj) : Qv (w.alloc o) v x k j := h.below (below_alloc w o)
theorem Qz.later {w : World} {v : Value} {x : Rat} {k j : Nat} (h : Qz w v x k j) (o : Obj) : Qz (w.alloc o) v x k j := h.below (below_alloc w o)
/-- A result, its cells by name. -/
theorem Qz.cells {w : World} {v : Value} {x : Rat} {k j : Nat} (h : Qz w v x k j) : ∃ b A n c B m c', v = .agg #[.bool b, .slice A n c, .slice B m c'] ∧ Iz w (.agg #[.bool b, .slice A n c]) x.num k ∧ Nz w (.slice B m c') x.den j ∧ Qz w (.agg #[.bool b, .slice A n c, .slice B m c']) x k j := by
  obtain ⟨b, A, n, c, B, m, c', rfl, h1, h2⟩ := h
  exact ⟨b, A, n, c, B, m, c', rfl, h1, h2, _, _, _, _, _, _, _, rfl, h1, h2⟩
/-- A value made of a number and a natural number that are its lowest terms. -/
theorem Qz.mk {w : World} {b : Bool} {A : Option Addr} {n c : Nat} {B : Option Addr} {m c' k j : Nat} {z : Int} {d : Nat} {x : Rat} (h1 : Iz w (.agg #[.bool b, .slice A n c]) z k) (h2 : Nz w (.slice B m c') d j) (hz : z = x.num) (hd : d = x.den) : Qz w (.agg #[.bool b, .slice A n c, .slice B m c']) x k j := by
  subst hz hd; exact ⟨b, A, n, c, B, m, c', rfl, h1, h2⟩
/-- A box of three cells: what a variable that holds a ratio holds. -/
def Bq (w : World) (g : Nat) (v0 v1 v2 : Value) : Prop := w.cell? ⟨g, 0, none⟩ = some v0 ∧ w.cell? ⟨g, 1, none⟩ = some v1 ∧ w.cell? ⟨g, 2, none⟩ = some v2
theorem Bq.below {w w' : World} {g : Nat} {v0 v1 v2 : Value} (h : Bq w g v0 v1 v2) (hb : Below w.heap.size w w') : Bq w' g v0 v1 v2 :=
  ⟨by rw [hb.cell (World.block_lt_of_cell? w _ h.1)]; exact h.1, by rw [hb.cell (World.block_lt_of_cell? w _ h.2.1)]; exact h.2.1, by rw [hb.cell (World.block_lt_of_cell? w _ h.2.2)]; exact h.2.2⟩
theorem Bq.drew {w : World} {g : Nat} {v0 v1 v2 : Value} (h : Bq w g v0 v1 v2) : Bq w.drew g v0 v1 v2 := h
theorem Bq.new (w : World) (g : Nat) (hg : g = w.heap.size) (v0 v1 v2 : Value) : Bq (w.alloc (.cells #[v0, v1, v2] 27)) g v0 v1 v2 := by
  subst hg
  exact ⟨by simp, by simp, by simp⟩
theorem Bq.later {w : World} {g : Nat} {v0 v1 v2 : Value} (h : Bq w g v0 v1 v2) (o : Obj) : Bq (w.alloc o) g v0 v1 v2 := h.below (below_alloc w o)
theorem Bq.set {w : World} {g : Nat} {v0 v1 v2 : Value} (h : Bq w g v0 v1 v2) {p : Addr} (hne : g ≠ p.block) (u : Value) : Bq (w.setCell p u) g v0 v1 v2 := by
  have e : ∀ j : Nat, p ≠ (⟨g, j, none⟩ : Addr) := fun j h => hne (by rw [h])
  exact ⟨(World.cell?_setCell_other _ _ _ _ (e _)).trans h.1, (World.cell?_setCell_other _ _ _ _ (e _)).trans h.2.1, (World.cell?_setCell_other _ _ _ _ (e _)).trans h.2.2⟩
theorem Bx.set {w : World} {g : Nat} {v0 v1 : Value} (h : Bx w g v0 v1) {p : Addr} (hne : g ≠ p.block) (u : Value) : Bx (w.setCell p u) g v0 v1 := by
  have e : ∀ j : Nat, p ≠ (⟨g, j, none⟩ : Addr) := fun j h => hne (by rw [h])
  exact ⟨(World.cell?_setCell_other _ _ _ _ (e _)).trans h.1, (World.cell?_setCell_other _ _ _ _ (e _)).trans h.2⟩
theorem Bq.lt {w : World} {g : Nat} {v0 v1 v2 : Value} (h : Bq w g v0 v1 v2) : g < w.heap.size := World.block_lt_of_cell? w _ h.1
theorem Bx.lt' {w : World} {g : Nat} {v0 v1 : Value} (h : Bx w g v0 v1) : g < w.heap.size := World.block_lt_of_cell? w _ h.1
/-- A result's variable of three cells, not written yet. -/
def Rq (w : World) (g : Nat) : Prop := w.cell? ⟨g, 0, none⟩ = some (.bool false) ∧ w.cell? ⟨g, 1, none⟩ = some (.slice none 0 0) ∧ w.cell? ⟨g, 2, none⟩ = some (.slice none 0 0) ∧ w.frozen? ⟨g, 0, none⟩ = false ∧ w.frozen? ⟨g, 1, none⟩ = false ∧ w.frozen? ⟨g, 2, none⟩ = false
theorem Rq.new (w : World) (g : Nat) (hg : g = w.heap.size) : Rq (w.alloc (.cells #[.bool false, .slice none 0 0, .slice none 0 0] 27)) g := by
  subst hg
  exact ⟨by simp, by simp, by simp, by simp, by simp, by simp⟩
theorem Rq.below {w w' : World} {g : Nat} (h : Rq w g) (hb : Below w.heap.size w w') : Rq w' g := by
  have hg : g < w.heap.size := World.block_lt_of_cell? w _ h.1
  exact ⟨(hb.cell (p := ⟨g, 0, none⟩) hg).trans h.1, (hb.cell (p := ⟨g, 1, none⟩) hg).trans h.2.1, (hb.cell (p := ⟨g, 2, none⟩) hg).trans h.2.2.1, (hb.frozen (p := ⟨g, 0, none⟩) hg).trans h.2.2.2.1, (hb.frozen (p := ⟨g, 1, none⟩) hg).trans h.2.2.2.2.1, (hb.frozen (p := ⟨g, 2, none⟩) hg).trans h.2.2.2.2.2⟩
theorem Rq.drew {w : World} {g : Nat} (h : Rq w g) : Rq w.drew g := h
theorem Rq.later {w : World} {g : Nat} (h : Rq w g) (o : Obj) : Rq (w.alloc o) g := h.below (below_alloc w o)
theorem Rx.later {w : World} {g : Nat} (h : Rx w g) (o : Obj) : Rx (w.alloc o) g := h.below (below_alloc w o)
theorem Rq.apart {w : World} {g : Nat} (h : Rq w g) : g < w.heap.size ∧ g ≠ w.heap.size ∧ w.heap.size ≠ g := by
  have : g < w.heap.size := World.block_lt_of_cell? w _ h.1
  omega
theorem Rx.set {w : World} {g : Nat} (h : Rx w g) {p : Addr} (hne : g ≠ p.block) (u : Value) : Rx (w.setCell p u) g := by
  have e : ∀ j : Nat, p ≠ (⟨g, j, none⟩ : Addr) := fun j h => hne (by rw [h])
  obtain ⟨h1, h2, h3, h4⟩ := h
  exact ⟨(World.cell?_setCell_other _ _ _ _ (e _)).trans h1, (World.cell?_setCell_other _ _ _ _ (e _)).trans h2, by simpa using h3, by simpa using h4⟩
theorem Rq.set {w : World} {g : Nat} (h : Rq w g) {p : Addr} (hne : g ≠ p.block) (u : Value) : Rq (w.setCell p u) g := by
  have e : ∀ j : Nat, p ≠ (⟨g, j, none⟩ : Addr) := fun j h => hne (by rw [h])
  obtain ⟨h1, h2, h3, h4, h5, h6⟩ := h
  exact ⟨(World.cell?_setCell_other _ _ _ _ (e _)).trans h1, (World.cell?_setCell_other _ _ _ _ (e _)).trans h2, (World.cell?_setCell_other _ _ _ _ (e _)).trans h3, by simpa using h4, by simpa using h5, by simpa using h6⟩
abbrev W3 (w : World) (g : Nat) (a b c : Value) : World := ((w.setCell ⟨g, 0, none⟩ a).setCell ⟨g, 1, none⟩ b).setCell ⟨g, 2, none⟩ c
theorem rq_cells {w : World} {g : Nat} (h : Rq w g) (a b : Value) : (w.setCell ⟨g, 0, none⟩ a).cell? ⟨g, 1, none⟩ = some (.slice none 0 0) ∧ ((w.setCell ⟨g, 0, none⟩ a).setCell ⟨g, 1, none⟩ b).cell? ⟨g, 2, none⟩ = some (.slice none 0 0) :=
  ⟨(World.cell?_setCell_other _ _ _ _ (by simp)).trans h.2.1, (World.cell?_setCell_other _ _ _ _ (by simp)).trans ((World.cell?_setCell_other _ _ _ _ (by simp)).trans h.2.2.1)⟩
/-- The result's variable written. -/
theorem Rq.written {w : World} {g : Nat} (h : Rq w g) (a b c : Value) : Bq (((w.setCell ⟨g, 0, none⟩ a).setCell ⟨g, 1, none⟩ b).setCell ⟨g, 2, none⟩ c) g a b c := by
  have k := rq_cells h a b
  exact ⟨(World.cell?_setCell_other _ _ _ _ (by simp)).trans ((World.cell?_setCell_other _ _ _ _ (by simp)).trans (World.cell?_setCell_same _ _ _ h.1)), (World.cell?_setCell_other _ _ _ _ (by simp)).trans (World.cell?_setCell_same _ _ _ k.1), World.cell?_setCell_same _ _ _ k.2⟩
theorem Iv.ret3 {w : World} {v : Value} {z : Int} {k g : Nat} (h : Iv w v z k) (hr : Rq w g) (a b c : Value) : Iv (((w.setCell ⟨g, 0, none⟩ a).setCell ⟨g, 1, none⟩ b).setCell ⟨g, 2, none⟩ c) v z k :=
  ((h.put hr.1 (NoInt.bool _) a).put (rq_cells hr a b).1 (NoInt.slice _ _ _) b).put (rq_cells hr a b).2 (NoInt.slice _ _ _) c
theorem Iz.ret3 {w : World} {v : Value} {z : Int} {k g : Nat} (h : Iz w v z k) (hr : Rq w g) (a b c : Value) : Iz (((w.setCell ⟨g, 0, none⟩ a).setCell ⟨g, 1, none⟩ b).setCell ⟨g, 2, none⟩ c) v z k :=
  ((h.put hr.1 (NoInt.bool _) a).put (rq_cells hr a b).1 (NoInt.slice _ _ _) b).put (rq_cells hr a b).2 (NoInt.slice _ _ _) c
theorem Qz.ret3 {w : World} {v : Value} {x : Rat} {k j g : Nat} (h : Qz w v x k j) (hr : Rq w g) (a b c : Value) : Qz (((w.setCell ⟨g, 0, none⟩ a).setCell ⟨g, 1, none⟩ b).setCell ⟨g, 2, none⟩ c) v x k j :=
  ((h.put hr.1 (NoInt.bool _) a).put (rq_cells hr a b).1 (NoInt.slice _ _ _) b).put (rq_cells hr a b).2 (NoInt.slice _ _ _) c
theorem Qv.ret3 {w : World} {v : Value} {x : Rat} {k j g : Nat} (h : Qv w v x k j) (hr : Rq w g) (a b c : Value) : Qv (((w.setCell ⟨g, 0, none⟩ a).setCell ⟨g, 1, none⟩ b).setCell ⟨g, 2, none⟩ c) v x k j :=
  ((h.put hr.1 (NoInt.bool _) a).put (rq_cells hr a b).1 (NoInt.slice _ _ _) b).put (rq_cells hr a b).2 (NoInt.slice _ _ _) c
theorem Nz.ret3 {w : World} {v : Value} {m k g : Nat} (h : Nz w v m k) (hr : Rq w g) (a b c : Value) : Nz (((w.setCell ⟨g, 0, none⟩ a).setCell ⟨g, 1, none⟩ b).setCell ⟨g, 2, none⟩ c) v m k :=
  ((h.put hr.1 (NoInt.bool _) a).put (rq_cells hr a b).1 (NoInt.slice _ _ _) b).put (rq_cells hr a b).2 (NoInt.slice _ _ _) c
theorem Nz.ret {w : World} {v : Value} {m k g : Nat} (h : Nz w v m k) (hr : Rx w g) (a b : Value) : Nz ((w.setCell ⟨g, 0, none⟩ a).setCell ⟨g, 1, none⟩ b) v m k := by
  refine (h.put hr.1 (NoInt.bool _) a).put (x := .slice none 0 0) ?_ (NoInt.slice _ _ _) b
  exact (World.cell?_setCell_other _ _ _ _ (by simp)).trans hr.2.1
theorem Qz.ret {w : World} {v : Value} {x : Rat} {k j g : Nat} (h : Qz w v x k j) (hr : Rx w g) (a b : Value) : Qz ((w.setCell ⟨g, 0, none⟩ a).setCell ⟨g, 1, none⟩ b) v x k j := by
  refine (h.put hr.1 (NoInt.bool _) a).put (y := .slice none 0 0) ?_ (NoInt.slice _ _ _) b
  exact (World.cell?_setCell_other _ _ _ _ (by simp)).trans hr.2.1
theorem Qv.ret {w : World} {v : Value} {x : Rat} {k j g : Nat} (h : Qv w v x k j) (hr : Rx w g) (a b : Value) : Qv ((w.setCell ⟨g, 0, none⟩ a).setCell ⟨g, 1, none⟩ b) v x k j := by
  refine (h.put hr.1 (NoInt.bool _) a).put (y := .slice none 0 0) ?_ (NoInt.slice _ _ _) b
  exact (World.cell?_setCell_other _ _ _ _ (by simp)).trans hr.2.1
theorem below_ret3 {w0 w : World} {B g : Nat} (h : Below B w0 w) (hg : B ≤ g) (a b c : Value) : Below B w0 (((w.setCell ⟨g, 0, none⟩ a).setCell ⟨g, 1, none⟩ b).setCell ⟨g, 2, none⟩ c) := ((h.setCell (p := ⟨g, 0, none⟩) hg a).setCell (p := ⟨g, 1, none⟩) hg b).setCell (p := ⟨g, 2, none⟩) hg c
theorem Bw.bq {B : Nat} {W0 W : World} {g : Nat} {v0 v1 v2 : Value} (h : Bw B W0 W) (k : Bq W0 g v0 v1 v2) (hg : g < B) : Bq W g v0 v1 v2 := ⟨(h.1.cell (p := ⟨g, 0, none⟩) hg).trans k.1, (h.1.cell (p := ⟨g, 1, none⟩) hg).trans k.2.1, (h.1.cell (p := ⟨g, 2, none⟩) hg).trans k.2.2⟩
theorem Bw.rq {B : Nat} {W0 W : World} {g : Nat} (h : Bw B W0 W) (k : Rq W0 g) (hg : g < B) : Rq W g :=
  ⟨(h.1.cell (p := ⟨g, 0, none⟩) hg).trans k.1, (h.1.cell (p := ⟨g, 1, none⟩) hg).trans k.2.1, (h.1.cell (p := ⟨g, 2, none⟩) hg).trans k.2.2.1, (h.1.frozen (p := ⟨g, 0, none⟩) hg).trans k.2.2.2.1, (h.1.frozen (p := ⟨g, 1, none⟩) hg).trans k.2.2.2.2.1, (h.1.frozen (p := ⟨g, 2, none⟩) hg).trans k.2.2.2.2.2⟩
theorem Bw.ret3 {B : Nat} {W0 W : World} {g : Nat} (h : Bw B W0 W) (hg : B ≤ g) (a b c : Value) : Bw B W0 (((W.setCell ⟨g, 0, none⟩ a).setCell ⟨g, 1, none⟩ b).setCell ⟨g, 2, none⟩ c) := ((h.set _ hg a).set _ hg b).set _ hg c
theorem Bq.ret3 {w : World} {g r : Nat} {v0 v1 v2 : Value} (h : Bq w g v0 v1 v2) (hne : g ≠ r) (a b c : Value) : Bq (((w.setCell ⟨r, 0, none⟩ a).setCell ⟨r, 1, none⟩ b).setCell ⟨r, 2, none⟩ c) g v0 v1 v2 := ((h.set hne a).set hne b).set hne c
theorem Bx.ret3 {w : World} {g r : Nat} {v0 v1 : Value} (h : Bx w g v0 v1) (hne : g ≠ r) (a b c : Value) : Bx (((w.setCell ⟨r, 0, none⟩ a).setCell ⟨r, 1, none⟩ b).setCell ⟨r, 2, none⟩ c) g v0 v1 := ((h.set hne a).set hne b).set hne c
theorem Rq.ret3 {w : World} {g r : Nat} (h : Rq w g) (hne : g ≠ r) (a b c : Value) : Rq (((w.setCell ⟨r, 0, none⟩ a).setCell ⟨r, 1, none⟩ b).setCell ⟨r, 2, none⟩ c) g := ((h.set hne a).set hne b).set hne c
theorem Bq.ret {w : World} {g r : Nat} {v0 v1 v2 : Value} (h : Bq w g v0 v1 v2) (hne : g ≠ r) (a b : Value) : Bq ((w.setCell ⟨r, 0, none⟩ a).setCell ⟨r, 1, none⟩ b) g v0 v1 v2 := (h.set hne a).set hne b
/-- A ratio's cells in any form, with what its parts are. -/
theorem Qv.open_ {w : World} {v : Value} {x : Rat} {k j : Nat} (h : Qv w v x k j) : ∃ b A n c B m c' z d, v = .agg #[.bool b, .slice A n c, .slice B m c'] ∧ Iv w (.agg #[.bool b, .slice A n c]) z k ∧ Nm w (.slice B m c') d j ∧ x = mkRat z d := h
/-- An argument that came in: its bounds are its lengths. -/
theorem Nm.named {w : World} {v : Value} {m k : Nat} (h : Nm w v m k) : ∃ A n c, v = .slice A n c ∧ n ≤ 9223372036854775807 ∧ Nm w (.slice A n c) m n := by
  obtain ⟨l, h1, hv, _⟩ := h
  obtain ⟨A, n, c, e, hn, h2⟩ := h1.named
  rw [hv] at h2
  exact ⟨A, n, c, e, hn, h2⟩
/-- A variable's box of three cells that is written anew. -/
def Fq (w : World) (g : Nat) : Prop := g < w.heap.size ∧ w.frozen? ⟨g, 0, none⟩ = false ∧ w.frozen? ⟨g, 1, none⟩ = false ∧ w.frozen? ⟨g, 2, none⟩ = false
theorem Fq.new (w : World) (g : Nat) (hg : g = w.heap.size) (v0 v1 v2 : Value) : Fq (w.alloc (.cells #[v0, v1, v2] 27)) g := by
  subst hg
  exact ⟨by simp, by simp, by simp, by simp⟩
theorem Fq.below {w w' : World} {g : Nat} (h : Fq w g) (hb : Below w.heap.size w w') : Fq w' g :=
  ⟨Nat.lt_of_lt_of_le h.1 hb.size, (hb.frozen (p := ⟨g, 0, none⟩) h.1).trans h.2.1, (hb.frozen (p := ⟨g, 1, none⟩) h.1).trans h.2.2.1, (hb.frozen (p := ⟨g, 2, none⟩) h.1).trans h.2.2.2⟩
theorem Fq.drew {w : World} {g : Nat} (h : Fq w g) : Fq w.drew g := h
theorem bq_cells {w : World} {g : Nat} {v0 v1 v2 : Value} (h : Bq w g v0 v1 v2) (a b : Value) : (w.setCell ⟨g, 0, none⟩ a).cell? ⟨g, 1, none⟩ = some v1 ∧ ((w.setCell ⟨g, 0, none⟩ a).setCell ⟨g, 1, none⟩ b).cell? ⟨g, 2, none⟩ = some v2 :=
  ⟨(World.cell?_setCell_other _ _ _ _ (by simp)).trans h.2.1, (World.cell?_setCell_other _ _ _ _ (by simp)).trans ((World.cell?_setCell_other _ _ _ _ (by simp)).trans h.2.2)⟩
theorem Bq.over {w : World} {g : Nat} {v0 v1 v2 : Value} (h : Bq w g v0 v1 v2) (a b c : Value) : Bq (((w.setCell ⟨g, 0, none⟩ a).setCell ⟨g, 1, none⟩ b).setCell ⟨g, 2, none⟩ c) g a b c := by
  have k := bq_cells h a b
  exact ⟨(World.cell?_setCell_other _ _ _ _ (by simp)).trans ((World.cell?_setCell_other _ _ _ _ (by simp)).trans (World.cell?_setCell_same _ _ _ h.1)), (World.cell?_setCell_other _ _ _ _ (by simp)).trans (World.cell?_setCell_same _ _ _ k.1), World.cell?_setCell_same _ _ _ k.2⟩
theorem Qz.over {w : World} {v : Value} {x : Rat} {k j g : Nat} {b : Bool} {A A' : Option Addr} {n c n' c' : Nat} (h : Qz w v x k j) (hr : Bq w g (.bool b) (.slice A n c) (.slice A' n' c')) (x0 x1 x2 : Value) : Qz (((w.setCell ⟨g, 0, none⟩ x0).setCell ⟨g, 1, none⟩ x1).setCell ⟨g, 2, none⟩ x2) v x k j :=
  ((h.put hr.1 (NoInt.bool _) x0).put (bq_cells hr x0 x1).1 (NoInt.slice _ _ _) x1).put (bq_cells hr x0 x1).2 (NoInt.slice _ _ _) x2
theorem Bx.c0 {w : World} {g : Nat} {v0 v1 : Value} (h : Bx w g v0 v1) : w.cell? ⟨g, 0, none⟩ = some v0 := h.1
theorem Bx.c1 {w : World} {g : Nat} {v0 v1 : Value} (h : Bx w g v0 v1) : w.cell? ⟨g, 1, none⟩ = some v1 := h.2
theorem Bq.c0 {w : World} {g : Nat} {v0 v1 v2 : Value} (h : Bq w g v0 v1 v2) : w.cell? ⟨g, 0, none⟩ = some v0 := h.1
theorem Bq.c1 {w : World} {g : Nat} {v0 v1 v2 : Value} (h : Bq w g v0 v1 v2) : w.cell? ⟨g, 1, none⟩ = some v1 := h.2.1
theorem Bq.c2 {w : World} {g : Nat} {v0 v1 v2 : Value} (h : Bq w g v0 v1 v2) : w.cell? ⟨g, 2, none⟩ = some v2 := h.2.2
theorem Qz.parts {w : World} {b : Bool} {A : Option Addr} {n c : Nat} {B : Option Addr} {m c' k j : Nat} {x : Rat} (h : Qz w (.agg #[.bool b, .slice A n c, .slice B m c']) x k j) : Iz w (.agg #[.bool b, .slice A n c]) x.num k ∧ Nz w (.slice B m c') x.den j := by
  obtain ⟨b1, A1, n1, c1, B1, m1, d1, e, h1, h2⟩ := h
  simp only [Value.agg.injEq, Array.mk.injEq, List.cons.injEq, Value.bool.injEq, Value.slice.injEq, and_true] at e
  obtain ⟨rfl, ⟨rfl, rfl, rfl⟩, rfl, rfl, rfl⟩ := e
  exact ⟨h1, h2⟩
theorem zero_iz (w : World) : Iz w (.agg #[.bool false, .slice none 0 0]) 0 0 := ⟨false, none, 0, 0, 0, rfl, ⟨[], Rd.nil _ _, Num.Nrm.nil, rfl, Nat.le_refl _⟩, rfl, fun _ => rfl⟩
theorem Iv.named {w : World} {v : Value} {z : Int} {k : Nat} (h : Iv w v z k) : ∃ b A n c, v = .agg #[.bool b, .slice A n c] ∧ n ≤ 9223372036854775807 ∧ Iv w (.agg #[.bool b, .slice A n c]) z n := by
  obtain ⟨b, A, n, c, m, rfl, h1, hz⟩ := h
  obtain ⟨A', n', c', e, hn, h2⟩ := h1.named
  simp only [Value.slice.injEq] at e
  obtain ⟨rfl, rfl, rfl⟩ := e
  exact ⟨b, A, n, c, rfl, hn, b, A, n, c, m, rfl, h2, hz⟩
theorem Qv.named {w : World} {v : Value} {x : Rat} {k j : Nat} (h : Qv w v x k j) : ∃ b A n c B m c', v = .agg #[.bool b, .slice A n c, .slice B m c'] ∧ n ≤ 9223372036854775807 ∧ m ≤ 9223372036854775807 ∧ Qv w (.agg #[.bool b, .slice A n c, .slice B m c']) x n m := by
  obtain ⟨b, A, n, c, B, m, c', z, d, rfl, h1, h2, h3⟩ := h
  obtain ⟨b1, A1, n1, c1, e, hn, h1⟩ := h1.named
  obtain ⟨B2, m2, c2, e2, hm, h2⟩ := h2.named
  simp only [Value.agg.injEq, Array.mk.injEq, List.cons.injEq, Value.bool.injEq, Value.slice.injEq, and_true] at e e2
  obtain ⟨rfl, rfl, rfl, rfl⟩ := e
  obtain ⟨rfl, rfl, rfl⟩ := e2
  exact ⟨_, _, _, _, _, _, _, rfl, hn, hm, _, _, _, _, _, _, _, z, d, rfl, h1, h2, h3⟩
end Go.Proofs.YtohlilgnognmgaaGreatDoor
