/-
  What each row of layer 7 needs beside its walk: texts in a slice and the parts of Join that came in.
-/
import Derived.Test.YtlinmhmhgnhmeaaDigC
import Derived.ProofKit
import Derived.OpenShut
import Derived.ShutString
import Derived.ChangeOld
import Derived.ChangeArms
import Derived.SliceStrings
import Derived.Lib.SmallJoins
import Derived.Below
namespace Go.Proofs.Ytlinmhmhgnhmeaa
open Go.ChangeShapes Go.WideShapes Go.ChangeAt Go.RowKit Dig
open Go.Joins
set_option linter.unusedVariables false
theorem own : ownKnob Try.prog.godebug = none := by kernel_rfl
theorem laidOut : laidOutB Try.prog = true := by kernel_rfl
theorem cells_parts : Try.prog.cellsOf 24 = 3 := by kernel_rfl
/-- Texts that came in. -/
theorem texts_arg {H : Type} {enc : TypeId × Value → H} (W : World) {base : Nat} (v : Value) (d : DataW H) (p : List MemPlace) (hv : Value.okWide Try.prog W .any base 30 v) (h : DataW.Trod enc Try.prog W 0 (fun _ => true) true 30 v d p) : ∃ L, RdT W L v := by
  obtain ⟨a, len, cap, rfl⟩ := okWide_slice Try.underlying30 hv
  obtain ⟨fuel, hf⟩ := h
  rcases open_strings Try.underlying30 Try.underlying9 (by kernel_rfl) hf with ⟨hcs, _⟩ | ⟨x, l, c, ss, hcs, _, hl, hm, hz, _, hcell, hws⟩
  · simp [Value.cells] at hcs
    obtain ⟨rfl, rfl, rfl⟩ := hcs
    exact ⟨[], none, 0, rfl, Nat.le_refl _, by omega, by simp, fun h => by simp at h⟩
  · simp [Value.cells] at hcs
    obtain ⟨rfl, rfl, rfl⟩ := hcs
    have hz : ss.length = cap := by simpa using hz
    have e : ((ss.take len).map (fun s => s.data.toList)).length = len := by rw [List.length_map, List.length_take]; omega
    refine ⟨(ss.take len).map (fun s => s.data.toList), some x, cap, by rw [e], by omega, by unfold maxLen at hm; omega, fun s hs => ?_, fun h0 => ?_⟩
    · obtain ⟨t, ht, rfl⟩ := List.mem_map.1 hs
      have := hws t (List.mem_of_mem_take ht)
      unfold maxLen at this
      rw [data_len]
      omega
    · obtain ⟨b, off, spot⟩ := x
      have hspot : spot = none := by simpa [Addr.add] using World.cell?_spot (hcell 0 (by omega))
      subst hspot
      refine ⟨b, off, rfl, fun j z hj => ?_⟩
      rw [List.getElem?_map] at hj
      cases ht : (ss.take len)[j]? with
      | none => rw [ht] at hj; cases hj
      | some t =>
        rw [ht] at hj
        injection hj with hj
        subst hj
        have hlt := (List.getElem?_eq_some_iff.1 ht).1
        rw [List.length_take] at hlt
        rw [List.getElem?_take_of_lt (by omega)] at ht
        have h1 := hcell j (by omega)
        rw [taddr_add, List.getD_eq_getElem?_getD, ht] at h1
        exact h1
/-- The parts of Join that came in. -/
theorem parts_arg {H : Type} {enc : TypeId × Value → H} (W : World) {base : Nat} (v : Value) (d : DataW H) (p : List MemPlace) (hv : Value.okWide Try.prog W .any base 24 v) (h : DataW.Trod enc Try.prog W 0 (fun _ => true) true 24 v d p) :
    ∃ (a b : Nat) (n : Int), v = .agg #[.int .u64 (a : Int), .int .i64 n, .int .u64 (b : Int)] ∧ a < 18446744073709551616 ∧ b < 18446744073709551616 ∧ n ≤ 9223372036854775807 ∧ -9223372036854775808 ≤ n := by
  obtain ⟨c0, c1, c2, y0, y1, y2, m, rfl, rfl, rfl, hy0, hy1, hy2⟩ := open_agg3 Try.underlying24 (by kernel_rfl) cells_parts hv h
  obtain ⟨a, e0, _, wa⟩ := DataW.trod_int Try.underlying22 hy0
  obtain ⟨n, e1, _, wn⟩ := DataW.trod_int Try.underlying3 hy1
  obtain ⟨b, e2, _, wb⟩ := DataW.trod_int Try.underlying22 hy2
  simp only [List.cons.injEq, and_true] at e0 e1 e2
  subst e0 e1 e2
  have ba := bounds_u64 wa
  have bn := bounds_i64 wn
  have bb := bounds_u64 wb
  obtain ⟨a', rfl⟩ := Int.eq_ofNat_of_zero_le ba.1
  obtain ⟨b', rfl⟩ := Int.eq_ofNat_of_zero_le bb.1
  exact ⟨a', b', n, rfl, by omega, by omega, by omega, by omega⟩
theorem byte_arg {x : Int} (h : 0 ≤ x ∧ x ≤ 255) : ∃ c : UInt8, (c.toNat : Int) = x := ⟨UInt8.ofNat x.toNat, by simp; omega⟩
end Go.Proofs.Ytlinmhmhgnhmeaa
