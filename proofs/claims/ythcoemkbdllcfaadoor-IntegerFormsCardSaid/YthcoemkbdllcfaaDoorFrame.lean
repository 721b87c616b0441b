/-
  What each law's row needs beside its walk: the listed tables hold what their initialisers lay; a slice that came in reads as limbs.
-/
import Derived.Test.YthcoemkbdllcfaaDoorText
import Derived.Test.YthcoemkbdllcfaaDoorLit
import Derived.Test.YthcoemkbdllcfaaDoorTie
import Derived.Test.YthcoemkbdllcfaaDoorCards
import Derived.ProofKit
import Derived.LaidMore
import Derived.OpenShut
import Derived.ShutString
import Derived.ChangeOld
import Derived.Below
import Derived.Stop.Joined
import Derived.Lib.LaidTab
import Derived.SevenTiedAt
namespace Go.Proofs.YthcoemkbdllcfaaDoor
open Go.ChangeShapes Go.WideShapes Go.ChangeAt Go.RowKit
open Go.ChangeMaps (open_string shut_string)

theorem own : ownKnob Tryd.prog.godebug = none := by kernel_rfl
theorem laidOut : laidOutB Tryd.prog = true := by kernel_rfl
def tabs : List (String × DataW Unit) := [("math/bits.deBruijn32tab", Rows.laid_math_bits_deBruijn32tab), ("math/bits.deBruijn64tab", Rows.laid_math_bits_deBruijn64tab), ("internal/strconv.uint64pow10", Rows.laid_internal_strconv_uint64pow10)]
theorem gTab : Tryd.prog.globalNamed "internal/strconv.uint64pow10" = some 0 := by kernel_rfl
theorem gTabType : (Tryd.prog.globals[0]?).map (·.type) = some 103 := by kernel_rfl
/-- The door's own heap meets the condition. -/
theorem door_met (os : Os) (args : Array Value) : laidMetH Tryd.prog tabs ((World.doorLaid Tryd.prog 24 os).forCall (fun _ _ => 0) ⟨#[], args, []⟩).memory :=
  laidMetH_of_parts3 (fuel := 8) (laidMet_of_run' 8 (by kernel_rfl) (by kernel_rfl)) (by kernel_rfl) (by kernel_rfl)
theorem tab_of {W : World} (h : laidMetH Tryd.prog tabs W) : Tab W := by
  rw [MakeChecks.laidMetH_plain _ _ _ (by kernel_rfl)] at h
  obtain ⟨ps, ⟨g0, t0, cs0, f0, p0, q0, hg0, ht0, hv0, hd0, ⟨g1, t1, cs1, f1, p1, q1, hg1, ht1, hv1, hd1, ⟨g2, t2, cs2, f2, p2, q2, hg2, ht2, hv2, hd2, _, _⟩, _⟩, _⟩, _, _⟩ := h
  obtain rfl := Option.some.inj (gTab.symm.trans hg2)
  obtain rfl := Option.some.inj (gTabType.symm.trans ht2)
  have hc := Lib.cells_of_tab (k := .u64) (zs := Lib.pow10Tab) Tryd.underlying103 Tryd.underlying58 (by kernel_rfl) (by kernel_rfl) hd2
  unfold Tab Lib.TabIs
  rw [hv2, ← hc]

/-- A slice of 32-bit numbers that came in: nil, or a row of its capacity. -/
def IsRow (w : World) (a : Option Addr) (len cap : Nat) (zs : List Int) : Prop :=
  (a = none ∧ len = 0 ∧ cap = 0 ∧ zs = []) ∨
  ∃ x, a = some x ∧ len ≤ cap ∧ cap ≤ maxLen ∧ zs.length = cap ∧ (∀ i, i < zs.length → w.cell? (x.add i) = some (.int .u32 (zs.getD i 0))) ∧ ∀ n ∈ zs, (Lit.int .u32 n).wf = true
theorem wf_u32 {z : Int} (h : (Lit.int .u32 z).wf = true) : 0 ≤ z ∧ z < 4294967296 := by
  have := bounds_u32 h
  omega
theorem IsRow.rd {w : World} {a : Option Addr} {len cap : Nat} {zs : List Int} (h : IsRow w a len cap zs) : ∃ l : List Nat, l.length = len ∧ Rd w (fun _ => True) (.slice a len cap) l := by
  rcases h with ⟨rfl, rfl, rfl, rfl⟩ | ⟨x, rfl, hl, hm, hz, hc, hw⟩
  · exact ⟨[], rfl, Rd.nil _ _⟩
  · have e : ((zs.take len).map Int.toNat).length = len := by rw [List.length_map, List.length_take]; omega
    have hat : ∀ (j u : Nat), ((zs.take len).map Int.toNat)[j]? = some u → ∃ z, zs[j]? = some z ∧ u = z.toNat := fun j u hu => by
      rw [List.getElem?_map, List.getElem?_take] at hu
      split at hu
      · cases hz : zs[j]? with
        | none => rw [hz] at hu; cases hu
        | some z => rw [hz] at hu; injection hu with hu; exact ⟨z, rfl, hu.symm⟩
      · cases hu
    refine ⟨(zs.take len).map Int.toNat, e, _, cap, by rw [e], by rw [e]; exact hl, by unfold maxLen at hm; omega, fun u hu => ?_, fun hpos => ?_⟩
    · obtain ⟨j, hj⟩ := List.getElem?_of_mem hu
      obtain ⟨z, hz1, rfl⟩ := hat j u hj
      have := wf_u32 (hw z (List.mem_of_getElem? hz1))
      rw [Num.K_eq]
      omega
    · rw [e] at hpos
      obtain ⟨b, off, rfl, hcell⟩ := ints_at hc (by omega)
      refine ⟨b, off, rfl, trivial, fun j u hu => ?_⟩
      obtain ⟨z, hz1, rfl⟩ := hat j u hu
      have hj := (List.getElem?_eq_some_iff.1 hz1).1
      have h1 := hcell j hj
      have h2 := wf_u32 (hw z (List.mem_of_getElem? hz1))
      rw [h1, List.getD_eq_getElem?_getD, hz1]
      simp
      omega
end Go.Proofs.YthcoemkbdllcfaaDoor
