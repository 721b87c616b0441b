/-
  Words for slices of ints and of bools in memory: no program is named here. 'RdI w v l': the slice v reads in w as the numbers l (all from 0 on); 'OwI e w g l': block g is just these cells, none frozen; 'OwB': the same of bools.
-/
import Derived.Deep.Draws
import Derived.Laws.Rows
import Derived.Laws.CopyOwn
import Derived.Laws.MakeOwn
import Derived.Laws.AppendOwn
import Derived.Lib.Hide
namespace Go.Proofs.Ythkgmjbjiiddhaa
open Go.RowKit
set_option linter.unusedVariables false

def Vi (x : Nat) : Value := .int .i64 (x : Int)
def CelI (w : World) (g off : Nat) (l : List Nat) : Prop := ∀ (j x : Nat), l[j]? = some x → w.cell? ⟨g, off + j, none⟩ = some (.int .i64 (x : Int))
def RdI (w : World) (v : Value) (l : List Nat) : Prop := ∃ A c, v = .slice A l.length c ∧ l.length ≤ c ∧ c ≤ 9223372036854775807 ∧ (0 < l.length → ∃ g off, A = some ⟨g, off, none⟩ ∧ CelI w g off l)
theorem CelI.below {w w' : World} {g off : Nat} {l : List Nat} (h : CelI w g off l) (hb : Below w.heap.size w w') : CelI w' g off l := fun j x hx => by
  have := h j x hx
  rw [hb.cell (World.block_lt_of_cell? w _ this)]
  exact this
theorem CelI.take {w : World} {g off : Nat} {l : List Nat} (h : CelI w g off l) (k : Nat) : CelI w g off (l.take k) := fun j x hx => by
  rw [List.getElem?_take] at hx
  split at hx
  · exact h j x hx
  · cases hx
theorem RdI.below {w w' : World} {v : Value} {l : List Nat} (h : RdI w v l) (hb : Below w.heap.size w w') : RdI w' v l := by
  obtain ⟨A, c, e, h1, h2, h3⟩ := h
  refine ⟨A, c, e, h1, h2, fun hl => ?_⟩
  obtain ⟨g, off, e, hc⟩ := h3 hl
  exact ⟨g, off, e, hc.below hb⟩
theorem RdI.drew {w : World} {v : Value} {l : List Nat} (h : RdI w v l) : RdI w.drew v l := h
theorem RdI.nil (w : World) : RdI w (.slice none 0 0) [] := ⟨none, 0, rfl, Nat.le_refl _, by omega, fun h => by simp at h⟩
theorem RdI.named {w : World} {v : Value} {l : List Nat} (h : RdI w v l) : ∃ A n c, v = .slice A n c ∧ Hid (l.length = n) ∧ n ≤ c ∧ c ≤ 9223372036854775807 ∧ Hid (0 < l.length → ∃ g off, A = some ⟨g, off, none⟩ ∧ CelI w g off l) := by
  obtain ⟨A, c, e, h1, h2, h3⟩ := h
  exact ⟨A, _, c, e, rfl, h1, h2, h3⟩
/-- The first k elements of a slice that reads as l. -/
theorem RdI.take {w : World} {A : Option Addr} {n c : Nat} {l : List Nat} (h : RdI w (.slice A n c) l) (k c' : Nat) (hk : k ≤ n) (hc : k ≤ c') (hc' : c' ≤ 9223372036854775807) : RdI w (.slice A k c') (l.take k) := by
  obtain ⟨A', c0, e, h1, h2, h3⟩ := h
  simp only [Value.slice.injEq] at e
  obtain ⟨rfl, hn, rfl⟩ := e
  have e1 : (l.take k).length = k := by rw [List.length_take]; omega
  refine ⟨A, c', by rw [e1], by omega, hc', fun hl => ?_⟩
  obtain ⟨g, off, e, hcel⟩ := h3 (by omega)
  exact ⟨g, off, e, hcel.take k⟩
def OwI (e : TypeId) (w : World) (g : Nat) (l : List Nat) : Prop := w.heap[g]? = some (.cells (l.map Vi).toArray e (0, 0))
def OwB (e : TypeId) (w : World) (g : Nat) (l : List Bool) : Prop := w.heap[g]? = some (.cells (l.map Value.bool).toArray e (0, 0))
section
variable {e : TypeId} {w w' : World} {g : Nat} {l : List Nat}
theorem OwI.lt (h : OwI e w g l) : g < w.heap.size := by
  rcases Nat.lt_or_ge g w.heap.size with hlt | hge
  · exact hlt
  · unfold OwI at h; rw [Array.getElem?_eq_none hge] at h; cases h
theorem OwI.cel (h : OwI e w g l) : CelI w g 0 l := fun j x hx => by
  rw [Nat.zero_add, cell_of_row w g j _ e (0, 0) h]
  simp [hx, Vi]
theorem OwI.cell (h : OwI e w g l) (j x : Nat) (hx : l[j]? = some x) : w.cell? ⟨g, j, none⟩ = some (.int .i64 (x : Int)) := by
  have := h.cel j x hx
  rwa [Nat.zero_add] at this
theorem OwI.frozen (h : OwI e w g l) (i : Nat) : w.frozen? ⟨g, i, none⟩ = false := frozen_of_row w g i _ e h
theorem OwI.drew (h : OwI e w g l) : OwI e w.drew g l := h
theorem OwI.drewN (h : OwI e w g l) (n : Nat) : OwI e (w.drewN n) g l := h
theorem OwI.alloc (h : OwI e w g l) (o : Obj) : OwI e (w.alloc o) g l := (Below.heap_alloc w o g h.lt).trans h
theorem OwI.set_ (h : OwI e w g l) (i x : Nat) : OwI e (w.setCell ⟨g, i, none⟩ (.int .i64 (x : Int))) g (l.set i x) := by
  unfold OwI at h ⊢
  simp [World.setCell, Array.getElem?_modify, h]
  rfl
theorem OwI.below {B : Nat} (h : OwI e w g l) (hb : Below B w w') (hg : g < B) : OwI e w' g l := (hb.block g hg).trans h
theorem OwI.rd (h : OwI e w g l) (hm : l.length ≤ 9223372036854775807) : RdI w (.slice (some ⟨g, 0, none⟩) l.length l.length) l :=
  ⟨_, _, rfl, Nat.le_refl _, hm, fun _ => ⟨g, 0, rfl, h.cel⟩⟩
theorem OwI.of_row {base n : Nat} {xs : List Value} (h : w.ownsRow base e 1 (.slice (some ⟨g, 0, none⟩) n n) n xs) (hx : xs = l.map Vi) : OwI e w g l := by
  rcases h.2 with ⟨h1, _⟩ | ⟨g', cap, cur, h1, _, hh, _, _, hs, ht⟩
  · simp at h1
  · simp only [Value.slice.injEq, Option.some.injEq, Addr.mk.injEq, and_true, true_and] at h1
    obtain ⟨rfl, rfl⟩ := h1
    have : cur.toList = xs := by
      rw [← ht, List.take_of_length_le]
      simp [hs]
    unfold OwI
    rw [hh, ← hx, ← this]
end
section
variable {e : TypeId} {w w' : World} {g : Nat} {l : List Bool}
theorem OwB.lt (h : OwB e w g l) : g < w.heap.size := by
  rcases Nat.lt_or_ge g w.heap.size with hlt | hge
  · exact hlt
  · unfold OwB at h; rw [Array.getElem?_eq_none hge] at h; cases h
theorem OwB.cell (h : OwB e w g l) (j : Nat) (x : Bool) (hx : l[j]? = some x) : w.cell? ⟨g, j, none⟩ = some (.bool x) := by
  rw [cell_of_row w g j _ e (0, 0) h]
  simp [hx]
theorem OwB.frozen (h : OwB e w g l) (i : Nat) : w.frozen? ⟨g, i, none⟩ = false := frozen_of_row w g i _ e h
theorem OwB.drew (h : OwB e w g l) : OwB e w.drew g l := h
theorem OwB.drewN (h : OwB e w g l) (n : Nat) : OwB e (w.drewN n) g l := h
theorem OwB.alloc (h : OwB e w g l) (o : Obj) : OwB e (w.alloc o) g l := (Below.heap_alloc w o g h.lt).trans h
theorem OwB.set_ (h : OwB e w g l) (i : Nat) (x : Bool) : OwB e (w.setCell ⟨g, i, none⟩ (.bool x)) g (l.set i x) := by
  unfold OwB at h ⊢
  simp [World.setCell, Array.getElem?_modify, h]
theorem OwB.below {B : Nat} (h : OwB e w g l) (hb : Below B w w') (hg : g < B) : OwB e w' g l := (hb.block g hg).trans h
theorem OwB.of_row {base n : Nat} {xs : List Value} (h : w.ownsRow base e 1 (.slice (some ⟨g, 0, none⟩) n n) n xs) (hx : xs = l.map Value.bool) : OwB e w g l := by
  rcases h.2 with ⟨h1, _⟩ | ⟨g', cap, cur, h1, _, hh, _, _, hs, ht⟩
  · simp at h1
  · simp only [Value.slice.injEq, Option.some.injEq, Addr.mk.injEq, and_true, true_and] at h1
    obtain ⟨rfl, rfl⟩ := h1
    have : cur.toList = xs := by
      rw [← ht, List.take_of_length_le]
      simp [hs]
    unfold OwB
    rw [hh, ← hx, ← this]
end
/-- make([]int, n) -/
theorem wpList_make_i64 {P : Program} (w : World) {ops : Array Oper} {rest : List Oper} {o : Oper} {a : Act} {Q : Exit → Act → World → Prop}
    (hg : o.guard = none) (l c : Operand) (t : TypeId) (hop : o.op = Op.makeSlice t l c) (e : TypeId) (i : TypeInfo) (h1 : P.underlying t = some (.slice e)) (h2 : P.info? e = some i) (h3 : i.zero = some (.int .i64 0)) (h4 : i.size = 1) (h5 : i.bytes ≤ 8)
    (kl kc : IntKind) (L C : Int) (n : Nat) (hl : a.eval l = .int kl L) (hc : a.eval c = .int kc C) (hL : L = (n : Int)) (hC : C = (n : Int)) (b2 : n ≤ 1000000)
    (hK : ∀ g w', g = w.heap.size → OwI e w' g (List.replicate n 0) → Below w.heap.size w w' → w.heap.size < w'.heap.size → wpList P ops Q rest (a.put o.dst (.slice (some ⟨g, 0, none⟩) n n)) w') :
    wpList P ops Q (o :: rest) a w := by
  have hb : i.bytes * n ≤ 8000000 := by
    have := Nat.mul_le_mul h5 b2
    omega
  refine wpList_make_full w hg l c t hop 0 e i _ 1 h1 h2 h3 h4 kl kc L C n hl hc hL hC (by omega) (by unfold maxLen; omega) (Nat.zero_le _) ?_
  intro w' hown hgr
  refine hK _ _ rfl ?_ ⟨hgr.os, hgr.tape, hgr.output, hgr.size, fun k hk => hgr.block k hk (by simp)⟩ ?_
  · refine OwI.of_row hown ?_
    rw [Nat.mul_one, show (Value.int .i64 0).cells = #[Value.int .i64 0] from rfl, toList_madeCells_one, List.map_replicate]
    rfl
  · have := hown.lt w.heap.size rfl
    exact this.2
/-- make([]bool, n) -/
theorem wpList_make_bool {P : Program} (w : World) {ops : Array Oper} {rest : List Oper} {o : Oper} {a : Act} {Q : Exit → Act → World → Prop}
    (hg : o.guard = none) (l c : Operand) (t : TypeId) (hop : o.op = Op.makeSlice t l c) (e : TypeId) (i : TypeInfo) (h1 : P.underlying t = some (.slice e)) (h2 : P.info? e = some i) (h3 : i.zero = some (.bool false)) (h4 : i.size = 1) (h5 : i.bytes ≤ 8)
    (kl kc : IntKind) (L C : Int) (n : Nat) (hl : a.eval l = .int kl L) (hc : a.eval c = .int kc C) (hL : L = (n : Int)) (hC : C = (n : Int)) (b2 : n ≤ 1000000)
    (hK : ∀ g w', g = w.heap.size → OwB e w' g (List.replicate n false) → Below w.heap.size w w' → w.heap.size < w'.heap.size → wpList P ops Q rest (a.put o.dst (.slice (some ⟨g, 0, none⟩) n n)) w') :
    wpList P ops Q (o :: rest) a w := by
  have hb : i.bytes * n ≤ 8000000 := by
    have := Nat.mul_le_mul h5 b2
    omega
  refine wpList_make_full w hg l c t hop 0 e i _ 1 h1 h2 h3 h4 kl kc L C n hl hc hL hC (by omega) (by unfold maxLen; omega) (Nat.zero_le _) ?_
  intro w' hown hgr
  refine hK _ _ rfl ?_ ⟨hgr.os, hgr.tape, hgr.output, hgr.size, fun k hk => hgr.block k hk (by simp)⟩ ?_
  · refine OwB.of_row hown ?_
    rw [Nat.mul_one, show (Value.bool false).cells = #[Value.bool false] from rfl, toList_madeCells_one, List.map_replicate]
  · have := hown.lt w.heap.size rfl
    exact this.2
end Go.Proofs.Ythkgmjbjiiddhaa
