/-
  What each row of layer 6 needs beside its walk: a tree that came in reads as a tree.
-/
import Derived.Test.YtmklladpalcjpaaDoorCodE
import Derived.Test.YtmklladpalcjpaaDoorTie
import Derived.Test.YtmklladpalcjpaaDoorCards
import Derived.ProofKit
import Derived.LaidMore
import Derived.OpenShut
import Derived.ShutString
import Derived.ChangeOld
import Derived.Below
import Derived.Stop.Joined
import Derived.Lib.LaidTab
import Derived.SevenTiedAt
import Derived.ChangeArms
import Derived.SizedLaws
namespace Go.Proofs.YtmklladpalcjpaaDoor
open Go.ChangeShapes Go.WideShapes Go.ChangeAt Go.RowKit Cod
open Go.ChangeMaps (open_string shut_string)
set_option linter.unusedVariables false

/-- A tree in the three cells that hold it. -/
def AtC (W : World) (cs : List Value) : Prop := ∃ (n : Nd) (l : Bool) (t : ByteArray) (A : Option Addr) (m c : Nat), cs = [.bool l, .string t, .slice A m c] ∧ RdN W n (.agg #[.bool l, .string t, .slice A m c])
/-- Trees in a row. -/
theorem row_nd (W : World) (g off : Nat) : ∀ len, (∀ i, i < len → ∃ u0 u1 u2, W.cell? ⟨g, off + i * 3, none⟩ = some u0 ∧ W.cell? ⟨g, off + i * 3 + 1, none⟩ = some u1 ∧ W.cell? ⟨g, off + i * 3 + 2, none⟩ = some u2 ∧ AtC W [u0, u1, u2]) → ∃ k : List Nd, k.length = len ∧ ∀ i, i < len → ∃ n u0 u1 u2, k[i]? = some n ∧ W.cell? ⟨g, off + i * 3, none⟩ = some u0 ∧ W.cell? ⟨g, off + i * 3 + 1, none⟩ = some u1 ∧ W.cell? ⟨g, off + i * 3 + 2, none⟩ = some u2 ∧ RdN W n (.agg #[u0, u1, u2])
  | 0, h => ⟨[], rfl, fun i hi => by omega⟩
  | len + 1, h => by
    obtain ⟨k, hk, hc⟩ := row_nd W g off len (fun i hi => h i (by omega))
    obtain ⟨u0, u1, u2, h0, h1, h2, n, l, t, A, m, c, e, hn⟩ := h len (by omega)
    simp only [List.cons.injEq, and_true] at e
    obtain ⟨rfl, rfl, rfl⟩ := e
    refine ⟨k ++ [n], by simp [hk], fun i hi => ?_⟩
    by_cases hlt : i < len
    · obtain ⟨n', v0, v1, v2, a, b⟩ := hc i hlt
      exact ⟨n', v0, v1, v2, by rw [List.getElem?_append_left (by omega)]; exact a, b⟩
    · obtain rfl : i = len := by omega
      exact ⟨n, _, _, _, by rw [← hk]; simp, h0, h1, h2, hn⟩
theorem rdK_of_each (W : World) (g : Nat) : ∀ (k : List Nd) (off : Nat), (∀ i, i < k.length → ∃ n u0 u1 u2, k[i]? = some n ∧ W.cell? ⟨g, off + i * 3, none⟩ = some u0 ∧ W.cell? ⟨g, off + i * 3 + 1, none⟩ = some u1 ∧ W.cell? ⟨g, off + i * 3 + 2, none⟩ = some u2 ∧ RdN W n (.agg #[u0, u1, u2])) → RdK (fun _ => True) W g off k
  | [], off, h => by rw [RdK]; trivial
  | n :: r, off, h => by
    rw [RdK]
    obtain ⟨n', u0, u1, u2, e, a, b, c, d⟩ := h 0 (by simp)
    simp only [List.getElem?_cons_zero, Option.some.injEq] at e
    subst e
    rw [Nat.zero_mul, Nat.add_zero] at a b c
    refine ⟨⟨u0, u1, u2, a, b, c, d⟩, rdK_of_each W g r (off + 3) fun i hi => ?_⟩
    have := h (i + 1) (by rw [List.length_cons]; omega)
    rwa [List.getElem?_cons_succ, show off + (i + 1) * 3 = off + 3 + i * 3 by omega] at this
theorem weightsAll_mem {H : Type} {P : Program} {e : TypeId} : ∀ (l : List (DataW H)) (d : DataW H) (n : Nat), d ∈ l → n ∈ d.weights P e → n ∈ DataW.weightsAll P e l
  | [], d, n, h, _ => by simp at h
  | a :: r, d, n, h, hn => by
    rw [DataW.weightsAll, List.mem_append]
    rcases List.mem_cons.1 h with rfl | h
    · exact .inl hn
    · exact .inr (weightsAll_mem r d n h hn)
theorem list3 {α : Type} {cs : List α} (h : cs.length = 3) : ∃ a b c, cs = [a, b, c] := by
  match cs, h with
  | [a, b, c], _ => exact ⟨a, b, c, rfl⟩
abbrev TrodN {H : Type} (enc : TypeId × Value → H) (W : World) (n : Nat) (t : TypeId) (cs : List Value) (x : DataW H × List MemPlace) : Prop := DataW.trod enc Tryd.prog W 0 (fun _ => true) true n t cs = some x
theorem cells_node : Tryd.prog.cellsOf 25 = 3 := by kernel_rfl
/-- A slice of trees that came in. -/
theorem kids_of {H : Type} {enc : TypeId × Value → H} (W : World) (fuel : Nat) (ih : ∀ m, m < fuel → ∀ (cs : List Value) (x : DataW H × List MemPlace), TrodN enc W m 25 cs x → (∀ n ∈ x.1.weights Tryd.prog 25, n ≤ reachBytes) → AtC W cs)
    (cs : List Value) (x : DataW H × List MemPlace) (h : TrodN enc W fuel 23 cs x) (hw : ∀ n ∈ x.1.weights Tryd.prog 23, n ≤ reachBytes) : ∃ A m c k, cs = [.slice A m c] ∧ RdS W k (.slice A m c) := by
  rcases DataW.trod_slice Tryd.underlying23 h with ⟨rfl, _⟩ | ⟨a, len, cap, elems, rest, n, hn, rfl, hx, _, hl, hm, hel, hE, _, _⟩
  · exact ⟨none, 0, 0, [], rfl, RdMS.nil _ W⟩
  · rw [cells_node] at hE
    have each : ∀ i, i < len → ∃ cs', W.cells? 0 (a.add (i * 3)) 3 = some cs' ∧ AtC W cs' := fun i hi => by
      have hlt : i < elems.length := by omega
      have h1 := hE i hi
      rw [List.getElem?_eq_getElem hlt] at h1
      obtain ⟨cs', h2, h3⟩ := Option.bind_eq_some_iff.1 h1
      refine ⟨cs', h2, ih n (by omega) cs' _ h3 fun z hz => hw z ?_⟩
      rw [hx, DataW.weights, Tryd.underlying23]
      refine List.mem_cons_of_mem _ (List.mem_append.2 (.inl (weightsAll_mem _ _ _ (List.mem_map.2 ⟨_, List.getElem_mem hlt, rfl⟩) hz)))
    by_cases h0 : len = 0
    · subst h0
      exact ⟨some a, 0, cap, [], rfl, some a, cap, rfl, Nat.zero_le _, by unfold maxLen at hm; omega, fun h => by simp at h⟩
    · obtain ⟨b, off, spot⟩ := a
      have hspot : spot = none := by
        obtain ⟨cs', h2, _⟩ := each 0 (by omega)
        obtain ⟨_, h3, h4⟩ := World.cells?_some h2
        have h5 := h4 0 (by omega)
        rw [List.getElem?_eq_getElem (by omega)] at h5
        simpa [Addr.add] using World.cell?_spot h5
      subst hspot
      obtain ⟨k, hk, hc⟩ := row_nd W b off len fun i hi => by
        obtain ⟨cs', h2, h6⟩ := each i hi
        obtain ⟨_, h3, h4⟩ := World.cells?_some h2
        obtain ⟨u0, u1, u2, rfl⟩ := list3 h3
        have e : ∀ j, (((⟨b, off, none⟩ : Addr).add (i * 3)).add j) = ⟨b, off + i * 3 + j, none⟩ := fun j => by rw [add_plain, add_plain]
        exact ⟨u0, u1, u2, by have := h4 0 (by omega); rwa [e] at this, by have := h4 1 (by omega); rwa [e] at this, by have := h4 2 (by omega); rwa [e] at this, h6⟩
      subst hk
      refine ⟨_, _, cap, k, rfl, _, cap, rfl, hl, by unfold maxLen at hm; omega, fun _ => ⟨b, off, rfl, trivial, rdK_of_each W b k off fun i hi => hc i hi⟩⟩
set_option maxRecDepth 100000 in
/-- A tree that came in. -/
theorem node_of {H : Type} {enc : TypeId × Value → H} (W : World) : ∀ (fuel : Nat) (cs : List Value) (x : DataW H × List MemPlace), TrodN enc W fuel 25 cs x → (∀ n ∈ x.1.weights Tryd.prog 25, n ≤ reachBytes) → AtC W cs := by
  intro fuel
  induction fuel using Nat.strongRecOn with
  | ind fuel ih =>
    intro cs x h hw
    obtain ⟨xs, n, hfu, hx, hl, hlen, hf⟩ := DataW.trod_struct Tryd.underlying25 h
    obtain ⟨c0, c1, c2, rfl⟩ := list3 (hl.trans cells_node)
    obtain ⟨y0, y1, y2, rfl⟩ := list3 hlen
    have e0 : TrodN enc W n 4 [c0] y0 := hf 0 _ rfl
    have e1 : TrodN enc W n 9 [c1] y1 := hf 1 _ rfl
    have e2 : TrodN enc W n 23 [c2] y2 := hf 2 _ rfl
    have hw' : ∀ z ∈ DataW.weightsEach Tryd.prog [4, 9, 23] [y0.1, y1.1, y2.1], z ≤ reachBytes := fun z hz => hw z (by
      rw [hx, DataW.weights, Tryd.underlying25]
      exact hz)
    obtain ⟨l, hl0, _⟩ := DataW.trod_bool Tryd.underlying4 e0
    obtain ⟨s, hs0, hs1, _⟩ := DataW.trod_string Tryd.underlying9 e1
    have hs : s.data.toList.length ≤ 140737488351232 := hw' _ (DataW.weights_mem_each (j := 1) rfl rfl _ (by rw [hs1, DataW.weights]; exact List.mem_singleton.2 rfl))
    obtain ⟨A, m, c, k, hc2, hk⟩ := kids_of W n (fun m hm => ih m (by omega)) _ _ e2 (fun z hz => hw' z (DataW.weights_mem_each (j := 2) rfl rfl _ hz))
    simp only [List.cons.injEq, and_true] at hl0 hs0 hc2
    subst hl0 hs0 hc2
    exact ⟨.mk l s.data.toList k, l, s, A, m, c, rfl, by have := RdM.of_parts (l := l) hk hs; rwa [ofL_eq] at this⟩
/-- .. as an argument. -/
theorem tree_arg {H : Type} {enc : TypeId × Value → H} (W : World) {base : Nat} (v : Value) (d : DataW H) (p : List MemPlace) (hv : Value.okWide Tryd.prog W .any base 25 v) (h : DataW.Trod enc Tryd.prog W 0 (fun _ => true) true 25 v d p) (hw : ∀ n ∈ d.weights Tryd.prog 25, n ≤ reachBytes) : ∃ n, RdN W n v := by
  obtain ⟨cs, rfl, _⟩ := okWide_struct Tryd.underlying25 hv
  obtain ⟨fuel, hf⟩ := h
  obtain ⟨n, l, t, A, m, c, e, hn⟩ := node_of W fuel _ _ hf hw
  refine ⟨n, ?_⟩
  have e' : cs = #[.bool l, .string t, .slice A m c] := Array.toList_inj.1 e
  rwa [e']
theorem list_arg {H : Type} {enc : TypeId × Value → H} (W : World) {base : Nat} (v : Value) (d : DataW H) (p : List MemPlace) (hv : Value.okWide Tryd.prog W .any base 23 v) (h : DataW.Trod enc Tryd.prog W 0 (fun _ => true) true 23 v d p) (hw : ∀ n ∈ d.weights Tryd.prog 23, n ≤ reachBytes) : ∃ k, RdS W k v := by
  obtain ⟨a, len, cap, rfl⟩ := okWide_slice Tryd.underlying23 hv
  obtain ⟨fuel, hf⟩ := h
  obtain ⟨A, m, c, k, e, hk⟩ := kids_of W fuel (fun m _ => node_of W m) _ _ hf hw
  simp only [Value.cells, List.cons.injEq, and_true] at e
  exact ⟨k, by rw [e]; exact hk⟩
theorem path_arg {H : Type} {enc : TypeId × Value → H} (W : World) {base : Nat} (v : Value) (d : DataW H) (p : List MemPlace) (hv : Value.okWide Tryd.prog W .any base 37 v) (h : DataW.Trod enc Tryd.prog W 0 (fun _ => true) true 37 v d p) : ∃ zs, RdZ W zs v := by
  obtain ⟨a, len, cap, rfl⟩ := okWide_slice Tryd.underlying37 hv
  obtain ⟨fuel, hf⟩ := h
  rcases open_ints Tryd.underlying37 Tryd.underlying3 (by kernel_rfl) hf with ⟨hcs, _⟩ | ⟨x, l, c, zs, hcs, _, hl, hm, hz, _, hcell, hwz⟩
  · simp [Value.cells] at hcs
    obtain ⟨rfl, rfl, rfl⟩ := hcs
    exact ⟨[], none, 0, rfl, Nat.le_refl _, by omega, by simp, fun h => by simp at h⟩
  · simp [Value.cells] at hcs
    obtain ⟨rfl, rfl, rfl⟩ := hcs
    have hz : zs.length = cap := by simpa using hz
    have e : (zs.take len).length = len := by rw [List.length_take]; omega
    refine ⟨zs.take len, some x, cap, by rw [e], by omega, by unfold maxLen at hm; omega, fun z hz => ?_, fun h0 => ?_⟩
    · exact bounds_i64 (hwz z (List.mem_of_mem_take hz))
    · obtain ⟨b, off, rfl, hc⟩ := ints_at hcell (by omega)
      refine ⟨b, off, rfl, fun j z hj => ?_⟩
      have hlt := (List.getElem?_eq_some_iff.1 hj).1
      rw [List.getElem?_take_of_lt (by omega)] at hj
      rw [hc j (by omega), List.getD_eq_getElem?_getD, hj]
      rfl
/-! ### The listed tables -/
theorem own : ownKnob Tryd.prog.godebug = none := by kernel_rfl
theorem laidOut : laidOutB Tryd.prog = true := by kernel_rfl
def tabs : List (String × DataW Unit) := [("math/bits.deBruijn32tab", Rows.laid_math_bits_deBruijn32tab), ("math/bits.deBruijn64tab", Rows.laid_math_bits_deBruijn64tab), ("internal/strconv.uint64pow10", Rows.laid_internal_strconv_uint64pow10)]
theorem gTab : Tryd.prog.globalNamed "internal/strconv.uint64pow10" = some 0 := by kernel_rfl
theorem gTabType : (Tryd.prog.globals[0]?).map (·.type) = some 82 := by kernel_rfl
/-- The door's own heap meets the condition. -/
theorem door_met (os : Os) (args : Array Value) : laidMetH Tryd.prog tabs ((World.doorLaid Tryd.prog 24 os).forCall (fun _ _ => 0) ⟨#[], args, []⟩).memory :=
  laidMetH_of_parts3 (fuel := 8) (laidMet_of_run' 8 (by kernel_rfl) (by kernel_rfl)) (by kernel_rfl) (by kernel_rfl)
theorem tab_of {W : World} (h : laidMetH Tryd.prog tabs W) : Tab W := by
  rw [MakeChecks.laidMetH_plain _ _ _ (by kernel_rfl)] at h
  obtain ⟨ps, ⟨g0, t0, cs0, f0, p0, q0, hg0, ht0, hv0, hd0, ⟨g1, t1, cs1, f1, p1, q1, hg1, ht1, hv1, hd1, ⟨g2, t2, cs2, f2, p2, q2, hg2, ht2, hv2, hd2, _, _⟩, _⟩, _⟩, _, _⟩ := h
  obtain rfl := Option.some.inj (gTab.symm.trans hg2)
  obtain rfl := Option.some.inj (gTabType.symm.trans ht2)
  have hc := Lib.cells_of_tab (k := .u64) (zs := Lib.pow10Tab) Tryd.underlying82 Tryd.underlying75 (by kernel_rfl) (by kernel_rfl) hd2
  unfold Tab Lib.TabIs
  rw [hv2, ← hc]
end Go.Proofs.YtmklladpalcjpaaDoor
