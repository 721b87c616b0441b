/-
  Boxes of three cells: the arguments of Join.
-/
import Derived.Test.YtlinmhmhgnhmeaaDigG
namespace Go.Proofs.Ytlinmhmhgnhmeaa
open Go.RowKit Dig
set_option linter.unusedVariables false
def Bp (w : World) (g : Nat) (a : Nat) (n : Int) (b : Nat) : Prop := w.cell? ⟨g, 0, none⟩ = some (.int .u64 (a : Int)) ∧ w.cell? ⟨g, 1, none⟩ = some (.int .i64 n) ∧ w.cell? ⟨g, 2, none⟩ = some (.int .u64 (b : Int))
theorem Bp.below {w w' : World} {g : Nat} {a : Nat} {n : Int} {b : Nat} (h : Bp w g a n b) (hb : Below w.heap.size w w') : Bp w' g a n b :=
  ⟨cell_below h.1 hb, cell_below h.2.1 hb, cell_below h.2.2 hb⟩
theorem Bp.new (w : World) (g : Nat) (hg : g = w.heap.size) (a : Nat) (n : Int) (b : Nat) : Bp (w.alloc (.cells #[.int .u64 (a : Int), .int .i64 n, .int .u64 (b : Int)] 24)) g a n b := by
  subst hg
  exact ⟨by simp, by simp, by simp⟩
theorem join_self (j : Nat) (w : World) (ht : Dt w) (hj : j < P) : Calls Try.prog 14 #[.int .u64 0, .int .i64 1, .int .u64 (j : Int)] w (U64End j w) := by
  have h := join_c 0 j 1 w ht (by omega) (lt64 hj) (by omega) (by omega)
  rw [show (1 : Int).toNat = 1 from rfl, jn_self j hj] at h
  exact h
end Go.Proofs.Ytlinmhmhgnhmeaa
