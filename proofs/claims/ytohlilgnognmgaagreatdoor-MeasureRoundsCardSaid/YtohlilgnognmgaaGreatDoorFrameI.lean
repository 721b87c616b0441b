/-
  An api.Int that came in reads as an integer.
-/
import Derived.Test.YtohlilgnognmgaaGreatDoorJInt
import Derived.Lib.SmallJoins
import Derived.ChangeArms
namespace Go.Proofs.YtohlilgnognmgaaGreatDoor
open Go.ChangeShapes Go.WideShapes Go.ChangeAt Go.RowKit Go.Joins

set_option maxRecDepth 100000 in
theorem iv_of {H : Type} {enc : TypeId × Value → H} (W : World) {base : Nat} (v : Value) (d : DataW H) (p : List MemPlace) (hv : Value.okWide Tryz.prog W .any base 25 v) (h : DataW.Trod enc Tryz.prog W 0 (fun _ => true) true 25 v d p) : ∃ z k, Iv W v z k := by
  obtain ⟨v0, v1, y0, y1, m, rfl, rfl, rfl, hy0, hy1⟩ := open_agg2 Tryz.underlying25 (by kernel_rfl) (by kernel_rfl) hv h
  obtain ⟨b, e0, _⟩ := DataW.trod_bool Tryz.underlying4 hy0
  simp only [List.cons.injEq, and_true] at e0
  subst e0
  obtain ⟨A, len, cap, rfl, zs, w0⟩ : ∃ A len cap, v1 = .slice A len cap ∧ ∃ zs, IsRow W A len cap zs := by
    rcases open_ints Tryz.underlying23 Tryz.underlying45 (by kernel_rfl) hy1 with ⟨hcs, _⟩ | ⟨x, l, c, zs, hcs, _, hl, hm, hz, _, hcell, hwz⟩
    · simp only [List.cons.injEq, and_true] at hcs
      subst hcs
      exact ⟨none, 0, 0, rfl, [], .inl ⟨rfl, rfl, rfl, rfl⟩⟩
    · simp only [List.cons.injEq, and_true] at hcs
      subst hcs
      exact ⟨some x, l, c, rfl, zs, .inr ⟨_, rfl, hl, hm, by simpa using hz, hcell, hwz⟩⟩
  obtain ⟨l, _, rd⟩ := w0.rd
  exact ⟨_, _, b, A, len, cap, Num.val l, rfl, ⟨l, rd, rfl, Nat.le_refl _⟩, rfl⟩
end Go.Proofs.YtohlilgnognmgaaGreatDoor
