/-
  Slices of texts and of digests in memory; what the functions of numbers and of texts return.
-/
import Derived.Test.YtlinmhmhgnhmeaaDigX
import Derived.Test.YtlinmhmhgnhmeaaRows
import Derived.WalkKit
import Derived.WalkSpells
import Derived.Deep.Draws
import Derived.Laws.Rows
import Derived.Laws.CopyOwn
import Derived.Laws.MakeOwn
import Derived.Laws.AppendOwn
import Derived.Lib.Hide
import Derived.Below
import Derived.BigQuiet
import Derived.Deep.QuietTactic
import Derived.LoopTactic
import Derived.Deep.RegionWith
import Derived.Deep.RegionHeld3
import Derived.Deep.DrawnRows
import Derived.Laws.Strings
namespace Go.Proofs.Ytlinmhmhgnhmeaa
open Go.RowKit Dig
set_option linter.unusedVariables false

def ofL (l : List UInt8) : ByteArray := ⟨l.toArray⟩
theorem ofL_data (l : List UInt8) : (ofL l).data.toList = l := rfl
theorem ofL_size (l : List UInt8) : (ofL l).size = l.length := rfl
theorem ofL_eq (s : ByteArray) : ofL s.data.toList = s := rfl
theorem data_app (s t : ByteArray) : (s ++ t).data.toList = s.data.toList ++ t.data.toList := by simp [ByteArray.data_append]
theorem ofL_app (a b : List UInt8) : ofL a ++ ofL b = ofL (a ++ b) := by
  have h : (ofL a ++ ofL b).data.toList = a ++ b := by rw [data_app, ofL_data, ofL_data]
  rw [← h, ofL_eq]
theorem data_len (s : ByteArray) : s.data.toList.length = s.size := by simp
theorem cell_below {w w' : World} {a : Addr} {u : Value} (h : w.cell? a = some u) (hb : Below w.heap.size w w') : w'.cell? a = some u := by
  rw [hb.cell (World.block_lt_of_cell? w _ h)]
  exact h
theorem up_1 (w : World) (o : Obj) : Below w.heap.size w (w.alloc o) := (Below.refl _ w).alloc (Nat.le_refl _) o
/-- A slice of texts. -/
def RdT (w : World) (l : List (List UInt8)) (v : Value) : Prop := ∃ A c, v = .slice A l.length c ∧ l.length ≤ c ∧ c ≤ 9223372036854775807 ∧ (∀ s ∈ l, s.length ≤ 9223372036854775807) ∧ (0 < l.length → ∃ g off, A = some ⟨g, off, none⟩ ∧ ∀ (j : Nat) (s : List UInt8), l[j]? = some s → w.cell? ⟨g, off + j, none⟩ = some (.string (ofL s)))
/-- A slice of digests. -/
def RdU (w : World) (l : List Nat) (v : Value) : Prop := ∃ A c, v = .slice A l.length c ∧ l.length ≤ c ∧ c ≤ 9223372036854775807 ∧ (0 < l.length → ∃ g off, A = some ⟨g, off, none⟩ ∧ ∀ (j z : Nat), l[j]? = some z → w.cell? ⟨g, off + j, none⟩ = some (.int .u64 (z : Int)))
theorem RdT.below {w w' : World} {l : List (List UInt8)} {v : Value} (h : RdT w l v) (hb : Below w.heap.size w w') : RdT w' l v := by
  obtain ⟨A, c, h1, h2, h3, h4, h5⟩ := h
  refine ⟨A, c, h1, h2, h3, h4, fun h0 => ?_⟩
  obtain ⟨g, off, e, hc⟩ := h5 h0
  exact ⟨g, off, e, fun j s hs => cell_below (hc j s hs) hb⟩
theorem RdU.below {w w' : World} {l : List Nat} {v : Value} (h : RdU w l v) (hb : Below w.heap.size w w') : RdU w' l v := by
  obtain ⟨A, c, h1, h2, h3, h5⟩ := h
  refine ⟨A, c, h1, h2, h3, fun h0 => ?_⟩
  obtain ⟨g, off, e, hc⟩ := h5 h0
  exact ⟨g, off, e, fun j s hs => cell_below (hc j s hs) hb⟩
theorem RdT.named {w : World} {l : List (List UInt8)} {v : Value} (h : RdT w l v) : ∃ A m c, v = .slice A m c ∧ Hid (l.length = m) ∧ m ≤ c ∧ c ≤ 9223372036854775807 := by
  obtain ⟨A, c, h1, h2, h3, h4, h5⟩ := h
  exact ⟨A, _, c, h1, rfl, h2, h3⟩
theorem RdU.named {w : World} {l : List Nat} {v : Value} (h : RdU w l v) : ∃ A m c, v = .slice A m c ∧ Hid (l.length = m) ∧ m ≤ c ∧ c ≤ 9223372036854775807 := by
  obtain ⟨A, c, h1, h2, h3, h5⟩ := h
  exact ⟨A, _, c, h1, rfl, h2, h3⟩
theorem RdT.at {w : World} {l : List (List UInt8)} {A : Option Addr} {m c i : Nat} {s : List UInt8} (h : RdT w l (.slice A m c)) (hi : l[i]? = some s) : ∃ g off, A = some ⟨g, off, none⟩ ∧ w.cell? ⟨g, off + i, none⟩ = some (.string (ofL s)) ∧ s.length ≤ 9223372036854775807 := by
  obtain ⟨A', c', e, h2, h3, h4, h5⟩ := h
  simp only [Value.slice.injEq] at e
  obtain ⟨rfl, rfl, rfl⟩ := e
  have hlt := (List.getElem?_eq_some_iff.1 hi).1
  obtain ⟨g, off, e, hc⟩ := h5 (by omega)
  exact ⟨g, off, e, hc i s hi, h4 s (List.mem_of_getElem? hi)⟩
theorem RdU.at {w : World} {l : List Nat} {A : Option Addr} {m c i z : Nat} (h : RdU w l (.slice A m c)) (hi : l[i]? = some z) : ∃ g off, A = some ⟨g, off, none⟩ ∧ w.cell? ⟨g, off + i, none⟩ = some (.int .u64 (z : Int)) := by
  obtain ⟨A', c', e, h2, h3, h5⟩ := h
  simp only [Value.slice.injEq] at e
  obtain ⟨rfl, rfl, rfl⟩ := e
  have hlt := (List.getElem?_eq_some_iff.1 hi).1
  obtain ⟨g, off, e, hc⟩ := h5 (by omega)
  exact ⟨g, off, e, hc i z hi⟩
def Uv (z : Nat) : Value := .int .u64 (z : Int)
/-- A row of the call's own reads as the digests that it holds. -/
theorem RdU.of_row {w : World} {B : Nat} {v : Value} {l : List Nat} (h : w.ownsRow B 22 1 v l.length (l.map Uv)) : RdU w l v := by
  rcases h.2 with ⟨rfl, h0⟩ | ⟨g, cap, cur, rfl, _, hg, hle, hm, _, ht⟩
  · exact ⟨none, 0, by rw [h0], by omega, by omega, fun h => by omega⟩
  · refine ⟨_, cap, rfl, hle, by unfold maxLen at hm; omega, fun _ => ⟨g, 0, rfl, fun j z hj => ?_⟩⟩
    have hlt := (List.getElem?_eq_some_iff.1 hj).1
    rw [Nat.zero_add, cell_of_row _ _ _ _ _ (0, 0) hg, ← Array.getElem?_toList]
    have h3 : (cur.toList.take (l.length * 1))[j]? = (l.map Uv)[j]? := by rw [ht]
    rw [List.getElem?_take_of_lt (by omega), List.getElem?_map, hj] at h3
    exact h3
theorem ownsRow_below {w w' : World} {base : Nat} {e : TypeId} {size : Nat} {v : Value} {n : Nat} {xs : List Value} (h : w.ownsRow base e size v n xs) (hb : Below w.heap.size w w') : w'.ownsRow base e size v n xs := by
  refine ⟨h.1, h.2.imp id ?_⟩
  rintro ⟨g, cap, cur, h1, h2, h3, h4⟩
  have hlt : g < w.heap.size := (Array.getElem?_eq_some_iff.1 h3).1
  exact ⟨g, cap, cur, h1, h2, by rw [hb.block g hlt]; exact h3, h4⟩
/-! ### What functions return -/
def U64End (d : Nat) (w : World) (e : Ending) (w' : World) : Prop := e = .returned (.int .u64 (d : Int)) ∧ Below w.heap.size w w'
def BoolAnd (b : Bool) (w : World) (e : Ending) (w' : World) : Prop := e = .returned (.bool b) ∧ Below w.heap.size w w'
def StrEnd (l : List UInt8) (w : World) (e : Ending) (w' : World) : Prop := e = .returned (.string (ofL l)) ∧ Below w.heap.size w w'
def LnkEnd (l : List Nat) (w : World) (e : Ending) (w' : World) : Prop := ∃ A m c, e = .returned (.slice A m c) ∧ RdU w' l (.slice A m c) ∧ Below w.heap.size w w'
def ParEnd (R : Except Nat Nat) (w : World) (e : Ending) (w' : World) : Prop := ∃ d er : Nat, e = .returned (.tuple #[.int .u64 (d : Int), .int .i64 (er : Int)]) ∧ Below w.heap.size w w' ∧
  match R with
  | .ok x => er = 0 ∧ d = x
  | .error x => er = x ∧ d = 0
end Go.Proofs.Ytlinmhmhgnhmeaa
