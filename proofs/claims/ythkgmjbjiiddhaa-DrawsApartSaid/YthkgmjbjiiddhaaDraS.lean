/-
  The words of layer 5 in numbers; no program is named here. The next state and its number, the state after k steps, the order that Shuffle makes, the elements that Sample picks; a sorted list of the first k elements is what is picked.
-/
import Derived.Test.YthkgmjbjiiddhaaDraN
namespace Go.Proofs.Ythkgmjbjiiddhaa
namespace Dra
set_option linter.unusedVariables false

def nx (d : Nat) : Nat := af 18446744073709551616 6364136223846793005 1442695040888963407 d
def num (d : Nat) : Nat := nx d / 8589934592
def skp (k d : Nat) : Nat := it 18446744073709551616 6364136223846793005 1442695040888963407 k d
theorem nx_eq (d : Nat) : nx d = (d * 6364136223846793005 + 1442695040888963407) % 18446744073709551616 := by unfold nx af; rfl
theorem nx_lt (d : Nat) : nx d < 18446744073709551616 := by rw [nx_eq]; exact Nat.mod_lt _ (by omega)
theorem num_lt (d : Nat) : num d < 2147483648 := by
  have := nx_lt d
  unfold num
  omega
theorem skp_zero (d : Nat) : skp 0 d = d := by unfold skp; exact it_zero _ _ _ _
theorem skp_one (d : Nat) : skp 1 d = nx d := by unfold skp nx; exact it_one _ _ _ _
theorem skp_succ (k d : Nat) : skp (k + 1) d = skp k (nx d) := by unfold skp nx; exact it_succ _ _ _ _ _
theorem skp_add (j k d : Nat) : skp (j + k) d = skp k (skp j d) := by unfold skp; exact it_add _ _ _ j k d
theorem skp_next (k d : Nat) : skp (k + 1) d = nx (skp k d) := by rw [skp_add, skp_one]
theorem skp_lt (k d : Nat) (h : d < 18446744073709551616) : skp k d < 18446744073709551616 := by unfold skp; exact it_lt _ _ _ (by omega) k d h
/-- The number of Below. -/
def bel (d n : Nat) : Nat := if n = 0 then 0 else num d % n
theorem bel_pos (d n : Nat) (h : n ≠ 0) : bel d n = num d % n := if_neg h
theorem bel_lt (d n : Nat) (h : n ≠ 0) : bel d n < n := by rw [bel_pos d n h]; exact Nat.mod_lt _ (by omega)
theorem bel_le (d n : Nat) : bel d n < 2147483648 := by
  unfold bel
  split
  · omega
  · exact Nat.lt_of_le_of_lt (Nat.mod_le _ _) (num_lt d)
/-- n limited to the numbers from 0 to m. -/
def lim (n : Int) (m : Nat) : Nat := min n.toNat m
theorem lim_le (n : Int) (m : Nat) : lim n m ≤ m := Nat.min_le_right _ _
theorem lim_in (n m : Nat) (h : n ≤ m) : lim n m = n := by unfold lim; omega
/-- The exchanges from place i down to place 1. -/
def shw : Nat → Nat → List Nat → List Nat
  | 0, _, l => l
  | i + 1, d, l => shw i (nx d) (swp l (i + 1) (bel d (i + 2)))
theorem shw_zero (d : Nat) (l : List Nat) : shw 0 d l = l := by rw [shw]
theorem shw_succ (i d : Nat) (l : List Nat) : shw (i + 1) d l = shw i (nx d) (swp l (i + 1) (bel d (i + 2))) := by rw [shw]
def shuf (d n : Nat) : List Nat := shw (n - 1) d (List.range n)
theorem shw_ord : ∀ (i d : Nat) {l : List Nat} {n : Nat}, Ord l n → (i = 0 ∨ i < n) → Ord (shw i d l) n
  | 0, d, l, n, h, _ => by rw [shw_zero]; exact h
  | i + 1, d, l, n, h, hi => by
    rw [shw_succ]
    have := bel_lt d (i + 2) (by omega)
    exact shw_ord i _ (h.swp _ _ (by omega) (by omega)) (by omega)
theorem shuf_ord (d n : Nat) : Ord (shuf d n) n := shw_ord _ _ (ord_range n) (by omega)
theorem shuf_len (d n : Nat) : (shuf d n).length = n := (shuf_ord d n).1
/-- What Sample returns. -/
def smp (d n k : Nat) : List Nat := pick (shuf d n) n k
theorem smp_len (d n k : Nat) (hk : k ≤ n) : (smp d n k).length = k := pick_len (shuf_ord d n) k hk
theorem smp_lt (d n k x : Nat) (h : x ∈ smp d n k) : x < n := ((pick_mem _ _ _ _).1 h).1
/-- The first k elements sorted are the elements picked. -/
theorem sort_pick {l : List Nat} {n : Nat} (h : Ord l n) (k : Nat) : ((l.take k).map (fun x : Nat => (x : Int))).mergeSort (fun x y => decide (x ≤ y)) = (pick l n k).map (fun x : Nat => (x : Int)) := by
  have p1 : (((l.take k).map (fun x : Nat => (x : Int))).mergeSort (fun x y => decide (x ≤ y))).Perm ((pick l n k).map (fun x : Nat => (x : Int))) :=
    (List.mergeSort_perm _ _).trans ((pick_perm h k).symm.map _)
  have s1 := List.pairwise_mergeSort (le := fun x y : Int => decide (x ≤ y)) (fun a b c h1 h2 => by simp only [decide_eq_true_eq] at *; omega) (fun a b => by simp only [Bool.or_eq_true, decide_eq_true_eq]; omega) ((l.take k).map (fun x : Nat => (x : Int)))
  have s2 : ((pick l n k).map (fun x : Nat => (x : Int))).Pairwise (fun x y => decide (x ≤ y) = true) := by
    rw [List.pairwise_map]
    exact (pick_sorted l n k).imp (fun h => by simp only [decide_eq_true_eq]; omega)
  exact List.Perm.eq_of_pairwise (fun a b _ _ h1 h2 => by simp only [decide_eq_true_eq] at h1 h2; omega) s1 s2 p1
/-- The reference's list, built one by one. -/
theorem pick_step (l : List Nat) (n k i : Nat) : ((List.range (i + 1)).filter (fun x => decide (x ∈ l.take k))) = ((List.range i).filter (fun x => decide (x ∈ l.take k))) ++ (if i ∈ l.take k then [i] else []) := by
  rw [List.range_succ, List.filter_append]
  congr 1
  by_cases h : i ∈ l.take k
  · simp [h]
  · simp [h]
/-- An element of the picked ones is less than the next. -/
theorem pick_lt (l : List Nat) (n k i a b : Nat) (ha : (pick l n k)[i]? = some a) (hb : (pick l n k)[i + 1]? = some b) : a < b := by
  obtain ⟨h1, rfl⟩ := List.getElem?_eq_some_iff.1 ha
  obtain ⟨h2, rfl⟩ := List.getElem?_eq_some_iff.1 hb
  exact List.pairwise_iff_getElem.1 (pick_sorted l n k) i (i + 1) h1 h2 (by omega)
end Dra
end Go.Proofs.Ythkgmjbjiiddhaa
