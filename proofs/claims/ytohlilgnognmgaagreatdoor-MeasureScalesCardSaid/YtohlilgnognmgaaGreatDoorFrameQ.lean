/-
  An api.Ratio that came in reads as a rational number.
-/
import Derived.Test.YtohlilgnognmgaaGreatDoorFrameI
import Derived.Test.YtohlilgnognmgaaGreatDoorRatK
namespace Go.Proofs.YtohlilgnognmgaaGreatDoor
open Go.ChangeShapes Go.WideShapes Go.ChangeAt Go.RowKit Go.Joins
set_option linter.unusedVariables false

theorem row_cell {H : Type} {enc : TypeId × Value → H} (W : World) {n : Nat} {v : Value} {y : DataW H × List MemPlace} (hy : DataW.trod enc Tryz.prog W 0 (fun _ => true) true n 23 [v] = some y) : ∃ A len cap, v = .slice A len cap ∧ ∃ zs, IsRow W A len cap zs := by
  rcases open_ints Tryz.underlying23 Tryz.underlying45 (by kernel_rfl) hy with ⟨hcs, _⟩ | ⟨x, l, c, zs, hcs, _, hl, hm, hz, _, hcell, hwz⟩
  · simp only [List.cons.injEq, and_true] at hcs
    subst hcs
    exact ⟨none, 0, 0, rfl, [], .inl ⟨rfl, rfl, rfl, rfl⟩⟩
  · simp only [List.cons.injEq, and_true] at hcs
    subst hcs
    exact ⟨some x, l, c, rfl, zs, .inr ⟨_, rfl, hl, hm, by simpa using hz, hcell, hwz⟩⟩
set_option maxRecDepth 100000 in
theorem qv_of {H : Type} {enc : TypeId × Value → H} (W : World) {base : Nat} (v : Value) (d : DataW H) (p : List MemPlace) (hv : Value.okWide Tryz.prog W .any base 27 v) (h : DataW.Trod enc Tryz.prog W 0 (fun _ => true) true 27 v d p) : ∃ x k j, Qv W v x k j := by
  have hC : Tryz.prog.cellsOf 27 = 3 := by kernel_rfl
  obtain ⟨cs, rfl, hsz⟩ := okWide_struct Tryz.underlying27 hv
  obtain ⟨c0, c1, c2, rfl⟩ := array3 (hsz.trans hC)
  obtain ⟨fuel, hf⟩ := h
  obtain ⟨y0, y1, n, hx, _, h0, h1⟩ := trod_struct2 Tryz.underlying27 hf
  have e0 : DataW.trod enc Tryz.prog W 0 (fun _ => true) true n 25 [c0, c1] = some y0 := h0
  have e1 : DataW.trod enc Tryz.prog W 0 (fun _ => true) true n 23 [c2] = some y1 := h1
  obtain ⟨u0, u1, m, hu, _, i0, i1⟩ := trod_struct2 Tryz.underlying25 e0
  have j0 : DataW.trod enc Tryz.prog W 0 (fun _ => true) true m 4 [c0] = some u0 := i0
  have j1 : DataW.trod enc Tryz.prog W 0 (fun _ => true) true m 23 [c1] = some u1 := i1
  obtain ⟨b, hb, _⟩ := DataW.trod_bool Tryz.underlying4 j0
  simp only [List.cons.injEq, and_true] at hb
  subst hb
  obtain ⟨A, len, cap, rfl, zs, w0⟩ := row_cell W j1
  obtain ⟨B, len', cap', rfl, zs', w1⟩ := row_cell W e1
  obtain ⟨l, _, rd⟩ := w0.rd
  obtain ⟨l', _, rd'⟩ := w1.rd
  exact ⟨_, _, _, b, A, len, cap, B, len', cap', _, Num.val l', rfl, ⟨b, A, len, cap, Num.val l, rfl, ⟨l, rd, rfl, Nat.le_refl _⟩, rfl⟩, ⟨l', rd', rfl, Nat.le_refl _⟩, rfl⟩
end Go.Proofs.YtohlilgnognmgaaGreatDoor
