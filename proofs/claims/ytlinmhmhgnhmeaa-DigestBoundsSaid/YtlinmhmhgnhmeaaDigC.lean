/-
  A list of texts with one more behind it: two appends.
-/
import Derived.Test.YtlinmhmhgnhmeaaDigG
import Derived.Lib.AppendZeros
import Derived.Deep.Cut
namespace Go.Proofs.Ytlinmhmhgnhmeaa
open Go.RowKit Dig
set_option linter.unusedVariables false
def Tv (s : List UInt8) : Value := .string (ofL s)
theorem info_text : (Try.prog.info? 9).map (fun i => (i.zero, i.size, i.bytes)) = some (some (.string ⟨#[]⟩), 1, 16) := by kernel_rfl
theorem taddr_add (g off j : Nat) : (⟨g, off, none⟩ : Addr).add j = ⟨g, off + j, none⟩ := by unfold Addr.add; split <;> simp_all
theorem tapp_run (ty : TypeId) (w : World) (B : Nat) (v : Value) (P : List (List UInt8)) (vq : Value) (q : List (List UInt8)) (hrow : w.ownsRow B 9 1 v P.length (P.map Tv)) (hq : RdT w q vq) (hl : P.length + q.length ≤ 1000) (hB : B ≤ w.heap.size) (hne : ∃ g cap, v = .slice (some ⟨g, 0, none⟩) P.length cap ∧ P.length ≤ cap) :
    ∃ v' w', (Builtin.append_ #[30, 30] ty #[v, vq]).run Try.prog w = .ok v' w' ∧ w'.ownsRow B 9 1 v' (P ++ q).length ((P ++ q).map Tv) ∧ w.grownBy w' v.ownBlock ∧ (∃ g cap, v' = .slice (some ⟨g, 0, none⟩) (P ++ q).length cap ∧ (P ++ q).length ≤ cap) := by
  obtain ⟨i0, hi, hz0, hz1, hz2⟩ := info_parts info_text
  obtain ⟨A, c, rfl, h1, h2, h3, h4⟩ := hq
  cases q with
  | nil =>
    obtain ⟨g, cap, rfl, hcap⟩ := hne
    refine ⟨.slice (some ⟨g, 0, none⟩) P.length cap, w, ?_, by rw [List.append_nil]; exact hrow, ⟨rfl, rfl, rfl, Nat.le_refl _, fun _ _ _ => rfl⟩, g, cap, by rw [List.append_nil], by rw [List.append_nil]; exact hcap⟩
    cases A <;> simp [Builtin.append_, run_underlying Try.underlying30, sizeOf, typeInfo, hi, Builtin.lenOf, Builtin.firstCells, loadCells, loadCellsFrom, storeCells, hcap]
  | cons z q =>
    obtain ⟨g, off, rfl, hc⟩ := h4 (by simp)
    have hlm : ((z :: q).map Tv).length = (z :: q).length * 1 := by rw [List.length_map, Nat.mul_one]
    obtain ⟨v', w', hr, h5, h6, h7⟩ := run_append_own (P := Try.prog) w B 30 ty 9 i0 (.string ⟨#[]⟩) 1 16 Try.underlying30 hi hz0 hz1 hz2 rfl (by decide) v P.length (P.map Tv) hrow ⟨g, off, none⟩ (z :: q).length c ((z :: q).map Tv) hlm
      (fun j u hj => by
        rw [List.getElem?_map] at hj
        cases hx : (z :: q)[j]? with
        | none => rw [hx] at hj; cases hj
        | some x => rw [hx] at hj; injection hj with hj; rw [← hj, taddr_add]; exact hc j x hx)
      (fun u hu => by obtain ⟨x, _, rfl⟩ := List.mem_map.1 hu; rfl) (by unfold maxLen; omega) (by omega) hB
    refine ⟨v', w', hr, by rw [List.length_append, List.map_append]; exact h5, h6, ?_⟩
    rcases h5.2 with ⟨rfl, h0⟩ | ⟨g', cap, cur, rfl, _, _, hle, _⟩
    · simp at h0
    · exact ⟨g', cap, by rw [List.length_append], by rw [List.length_append]; exact hle⟩
theorem trow_empty (w : World) : (w.alloc (.cells #[] 9)).ownsRow w.heap.size 9 1 (.slice (some ⟨w.heap.size, 0, none⟩) 0 0) ([] : List (List UInt8)).length (([] : List (List UInt8)).map Tv) :=
  ⟨rfl, .inr ⟨w.heap.size, 0, #[], rfl, Nat.le_refl _, heap_alloc_new w _, Nat.le_refl _, Nat.zero_le _, rfl, rfl⟩⟩
theorem RdT.of_row {w : World} {B : Nat} {v : Value} {p : List (List UInt8)} (h : w.ownsRow B 9 1 v p.length (p.map Tv)) (hb : ∀ s ∈ p, s.length ≤ 9223372036854775807) : RdT w p v := by
  rcases h.2 with ⟨rfl, h0⟩ | ⟨g, cap, cur, rfl, _, hg, hle, hm, _, ht⟩
  · exact ⟨none, 0, by rw [h0], by omega, by omega, hb, fun h => by omega⟩
  · refine ⟨_, cap, rfl, hle, by unfold maxLen at hm; omega, hb, fun _ => ⟨g, 0, rfl, fun j z hj => ?_⟩⟩
    have hlt := (List.getElem?_eq_some_iff.1 hj).1
    rw [Nat.zero_add, cell_of_row _ _ _ _ _ (0, 0) hg, ← Array.getElem?_toList]
    have h3 : (cur.toList.take (p.length * 1))[j]? = (p.map Tv)[j]? := by rw [ht]
    rw [List.getElem?_take_of_lt (by omega), List.getElem?_map, hj] at h3
    exact h3
/-- 'append(append([]string{}, l...), s)': both appends, the worlds that lie between, and what is read behind. -/
theorem two_appends (w : World) (L : List (List UInt8)) (v : Value) (S : ByteArray) (h : RdT w L v) (hL : L.length ≤ 900) (hs : S.size ≤ 9223372036854775807) :
    ∃ A3 m3 c3 w3 A4 m4 c4 w4, (Builtin.append_ #[30, 30] 30 #[.slice (some ⟨w.heap.size, 0, none⟩) 0 0, v]).run Try.prog (w.alloc (.cells #[] 9)) = .ok (.slice A3 m3 c3) w3 ∧
      (Builtin.append_ #[30, 30] 30 #[.slice A3 m3 c3, .slice (some ⟨w3.heap.size, 0, none⟩) 1 1]).run Try.prog (w3.alloc (.cells #[.string S] 9)) = .ok (.slice A4 m4 c4) w4 ∧
      RdT w4 (L ++ [S.data.toList]) (.slice A4 m4 c4) ∧ Below w.heap.size w w4 := by
  have hrow := trow_empty w
  have U := up_1 w (.cells #[] 9)
  obtain ⟨v3, w3, r3, row3, gb3, g3, cap3, e3, l3⟩ := tapp_run 30 _ w.heap.size _ [] v L hrow (h.below U) (by simp; omega) (by simp) ⟨_, _, rfl, Nat.le_refl _⟩
  have B3 := U.grown gb3 (by simp) (fun k hk => (hrow.lt k hk).1)
  rw [List.nil_append] at row3 e3 l3
  have U3 := up_1 w3 (.cells #[.string S] 9)
  have hq : RdT (w3.alloc (.cells #[.string S] 9)) [S.data.toList] (.slice (some ⟨w3.heap.size, 0, none⟩) 1 1) := lit_T w3 [S.data.toList] #[.string S] _ _ _ rfl rfl rfl (by simp) (fun s hs' => by simp only [List.mem_cons, List.not_mem_nil, or_false] at hs'; subst hs'; rw [data_len]; exact hs)
  obtain ⟨v4, w4, r4, row4, gb4, g4, cap4, e4, l4⟩ := tapp_run 30 _ w.heap.size v3 L _ [S.data.toList] (row3.alloc _) hq (by simp; omega) (by have := B3.size; simp; omega) ⟨_, _, e3, l3⟩
  have B4 := (B3.alloc B3.size (.cells #[.string S] 9)).grown gb4 (by have := B3.size; simp; omega) (fun k hk => (row3.lt k hk).1)
  subst e3 e4
  refine ⟨_, _, _, w3, _, _, _, w4, r3, r4, RdT.of_row row4 (fun s hs' => ?_), B4⟩
  obtain ⟨_, _, _, _, _, hb, _⟩ := h
  rcases List.mem_append.1 hs' with h1 | h1
  · exact hb s h1
  · simp only [List.mem_cons, List.not_mem_nil, or_false] at h1
    subst h1
    rw [data_len]
    exact hs
end Go.Proofs.Ytlinmhmhgnhmeaa
