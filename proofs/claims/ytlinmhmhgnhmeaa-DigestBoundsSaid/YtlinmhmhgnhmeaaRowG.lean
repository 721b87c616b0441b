/-
  Blocks of memory that are a row of one-cell elements of any kind (numbers, bytes, truth values, texts): 'OwV f e w g l': block g of w is just the cells f x for x in l, none frozen. No program is named here.
-/
import Derived.Deep.Draws
import Derived.Laws.Rows
import Derived.Laws.CopyOwn
import Derived.Laws.MakeOwn
import Derived.Laws.AppendOwn
import Derived.Lib.Hide
namespace Go.Proofs.Ytlinmhmhgnhmeaa
open Go.RowKit
set_option linter.unusedVariables false
def OwV {α : Type} (f : α → Value) (e : TypeId) (w : World) (g : Nat) (l : List α) : Prop := w.heap[g]? = some (.cells (l.map f).toArray e (0, 0))
section
variable {α : Type} {f : α → Value} {e : TypeId} {w w' : World} {g : Nat} {l : List α}
theorem OwV.lt (h : OwV f e w g l) : g < w.heap.size := by
  rcases Nat.lt_or_ge g w.heap.size with hlt | hge
  · exact hlt
  · unfold OwV at h; rw [Array.getElem?_eq_none hge] at h; cases h
theorem OwV.cell (h : OwV f e w g l) (j : Nat) (x : α) (hx : l[j]? = some x) : w.cell? ⟨g, j, none⟩ = some (f x) := by
  rw [cell_of_row w g j _ e (0, 0) h]
  simp [hx]
theorem OwV.frozen (h : OwV f e w g l) (i : Nat) : w.frozen? ⟨g, i, none⟩ = false := frozen_of_row w g i _ e h
theorem OwV.drew (h : OwV f e w g l) : OwV f e w.drew g l := h
theorem OwV.drewN (h : OwV f e w g l) (n : Nat) : OwV f e (w.drewN n) g l := h
theorem OwV.alloc (h : OwV f e w g l) (o : Obj) : OwV f e (w.alloc o) g l := (Below.heap_alloc w o g h.lt).trans h
theorem OwV.set_ (h : OwV f e w g l) (i : Nat) (x : α) (y : Value) (hy : y = f x) : OwV f e (w.setCell ⟨g, i, none⟩ y) g (l.set i x) := by
  subst hy
  unfold OwV at h ⊢
  simp [World.setCell, Array.getElem?_modify, h]
theorem OwV.below {B : Nat} (h : OwV f e w g l) (hb : Below B w w') (hg : g < B) : OwV f e w' g l := (hb.block g hg).trans h
theorem OwV.of_row {base n : Nat} {xs : List Value} (h : w.ownsRow base e 1 (.slice (some ⟨g, 0, none⟩) n n) n xs) (hx : xs = l.map f) : OwV f e w g l := by
  rcases h.2 with ⟨h1, _⟩ | ⟨g', cap, cur, h1, _, hh, _, _, hs, ht⟩
  · simp at h1
  · simp only [Value.slice.injEq, Option.some.injEq, Addr.mk.injEq, and_true, true_and] at h1
    obtain ⟨rfl, rfl⟩ := h1
    have : cur.toList = xs := by
      rw [← ht, List.take_of_length_le]
      simp [hs]
    unfold OwV
    rw [hh, ← hx, ← this]
end
/-- make([]T, n) -/
theorem wpList_make_v {α : Type} (f : α → Value) (z : α) {P : Program} (w : World) {ops : Array Oper} {rest : List Oper} {o : Oper} {a : Act} {Q : Exit → Act → World → Prop}
    (hg : o.guard = none) (l c : Operand) (t : TypeId) (hop : o.op = Op.makeSlice t l c) (e : TypeId) (i : TypeInfo) (v : Value) (h1 : P.underlying t = some (.slice e)) (h2 : P.info? e = some i) (h3 : i.zero = some v) (h4 : i.size = 1) (h5 : i.bytes ≤ 16) (hv : v = f z) (hv1 : v.cells = #[v])
    (kl kc : IntKind) (L C : Int) (n : Nat) (hl : a.eval l = .int kl L) (hc : a.eval c = .int kc C) (hL : L = (n : Int)) (hC : C = (n : Int)) (b2 : n ≤ 1000000)
    (hK : ∀ g w', g = w.heap.size → OwV f e w' g (List.replicate n z) → Below w.heap.size w w' → w.heap.size < w'.heap.size → wpList P ops Q rest (a.put o.dst (.slice (some ⟨g, 0, none⟩) n n)) w') :
    wpList P ops Q (o :: rest) a w := by
  have hb : i.bytes * n ≤ 16000000 := by
    have := Nat.mul_le_mul h5 b2
    omega
  refine wpList_make_full w hg l c t hop 0 e i v 1 h1 h2 h3 h4 kl kc L C n hl hc hL hC (by omega) (by unfold maxLen; omega) (Nat.zero_le _) ?_
  intro w' hown hgr
  refine hK _ _ rfl ?_ ⟨hgr.os, hgr.tape, hgr.output, hgr.size, fun k hk => hgr.block k hk (by simp)⟩ ?_
  · refine OwV.of_row hown ?_
    rw [Nat.mul_one, hv1, toList_madeCells_one, List.map_replicate, hv]
  · have := hown.lt w.heap.size rfl
    exact this.2
end Go.Proofs.Ytlinmhmhgnhmeaa
