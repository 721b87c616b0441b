/-
  What Encode and At return, in words; the library's table; the law package's leaf.
-/
import Derived.Test.YtmklladpalcjpaaDoorCodX
import Derived.Lib.AppendIntMem
import Derived.Lib.LaidTab
namespace Go.Proofs.YtmklladpalcjpaaDoor
open Go.RowKit Cod
set_option linter.unusedVariables false

/-- The library's table of powers of ten holds what its initialiser lays. -/
def Tab (w : World) : Prop := Lib.TabIs Tryd.prog w "internal/strconv.uint64pow10" IntKind.u64 Lib.pow10Tab
theorem Tab.below {w w' : World} (h : Tab w) (hb : Below w.heap.size w w') : Tab w' := (Lib.tabBelow_of_tabIs h) w' hb
/-- What Encode returns. -/
def EncEnd (R : Except Nat (List UInt8)) (w : World) (e : Ending) (w' : World) : Prop :=
  ∃ (t : ByteArray) (er : Nat), e = .returned (.tuple #[.string t, .int .i64 (er : Int)]) ∧ Below w.heap.size w w' ∧
    match R with
    | .ok s => er = 0 ∧ t = ofL s
    | .error x => er = x ∧ t = ⟨#[]⟩
/-- What At returns. -/
def AtEnd (R : Option Nd) (w : World) (e : Ending) (w' : World) : Prop :=
  ∃ (l : Bool) (t : ByteArray) (A : Option Addr) (m c er : Nat), e = .returned (.tuple #[.agg #[.bool l, .string t, .slice A m c], .int .i64 (er : Int)]) ∧ Below w.heap.size w w' ∧
    match R with
    | some x => er = 0 ∧ RdN w' x (.agg #[.bool l, .string t, .slice A m c])
    | none => er = 6 ∧ l = false ∧ t = ⟨#[]⟩ ∧ A = none ∧ m = 0 ∧ c = 0
/-- A slice of ints reads as a path. -/
def RdZ (w : World) (p : List Int) (v : Value) : Prop := ∃ A c, v = .slice A p.length c ∧ p.length ≤ c ∧ c ≤ 9223372036854775807 ∧ (∀ z ∈ p, -9223372036854775808 ≤ z ∧ z ≤ 9223372036854775807) ∧ (0 < p.length → ∃ g off, A = some ⟨g, off, none⟩ ∧ ∀ (j : Nat) (z : Int), p[j]? = some z → w.cell? ⟨g, off + j, none⟩ = some (.int .i64 z))
theorem RdZ.below {w w' : World} {p : List Int} {v : Value} (h : RdZ w p v) (hb : Below w.heap.size w w') : RdZ w' p v := by
  obtain ⟨A, c, h1, h2, h3, h4, h5⟩ := h
  refine ⟨A, c, h1, h2, h3, h4, fun h0 => ?_⟩
  obtain ⟨g, off, e, hc⟩ := h5 h0
  exact ⟨g, off, e, fun j z hz => cell_below (hc j z hz) hb⟩
set_option maxRecDepth 20000 in
theorem leaf_walk (s : ByteArray) (w : World) : Calls Tryd.prog 19 #[.string s] w fun e w' => e = .returned (.agg #[.bool false, .string s, .slice none 0 0]) ∧ Below w.heap.size w w' := by
  have B0 := up_1 w (.cells #[.bool false, .string s, .slice none 0 0] 25)
  have kr := Bn.new w (.bool false) (.string s) (.slice none 0 0) 25
  have k0 := kr.1
  have k1 := kr.2.1
  have k2 := kr.2.2.1
  go_enter Tryd.func19, Tryd.ntmps19
  go_wp2
  refine bodyPost_ret (v := .agg #[.bool false, .string s, .slice none 0 0]) (by simp [results, Tryd.results19, go_sem, k0, k1, k2]) rfl ⟨rfl, B0⟩
/-- Trees written out in a new block. -/
theorem lit_S (W : World) (k : List Nd) (cs : Array Value) (e : TypeId) (b n : Nat) (hb : b = W.heap.size) (hn : n = k.length) (hC : RdC (fun _ => True) (W.alloc (.cells cs e)) k cs.toList) (hl : k.length ≤ 1000000) : RdS (W.alloc (.cells cs e)) k (.slice (some ⟨b, 0, none⟩) n n) := by
  subst hb hn
  have hh : (W.alloc (.cells cs e)).heap[W.heap.size]? = some (.cells cs e (0, 0)) := by simp only [World.alloc, Array.getElem?_push_size]
  refine ⟨_, _, rfl, Nat.le_refl _, by omega, fun _ => ⟨_, 0, rfl, trivial, rdK_of_cells k cs.toList 0 hC fun j u hu => ?_⟩⟩
  rw [Nat.zero_add, cell_of_row _ _ _ _ e (0, 0) hh, ← Array.getElem?_toList]
  exact hu
/-- A text. -/
theorem rd_text (w : World) (t : List UInt8) (ht : t.length ≤ 140737488351232) : RdN w (.mk false t []) (.agg #[.bool false, .string (ofL t), .slice none 0 0]) := RdM.of_parts (RdMS.nil _ w) ht
end Go.Proofs.YtmklladpalcjpaaDoor
