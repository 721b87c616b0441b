/-
  The contracts of package ratio's arithmetic, said of rational numbers.
-/
import Derived.Test.YtohlilgnognmgaaGreatDoorRatP
namespace Go.Proofs.YtohlilgnognmgaaGreatDoor
open Go.RowKit
set_option linter.unusedVariables false

theorem znz {d : Nat} (h : 0 < d) : (d : Int) ≠ 0 := by omega
theorem zmul_nz {d e : Nat} (h : 0 < d) (h' : 0 < e) : (d : Int) * (e : Int) ≠ 0 := Int.mul_ne_zero (znz h) (znz h')
theorem qneg_q {w : World} {v : Value} {x : Rat} {k j : Nat} (h : Qv w v x k j) (hk : k ≤ 150) (hj : j ≤ 150) : Calls Tryz.prog 16 #[v] w (QEnd (-x) k (max j 2) w) := by
  obtain ⟨z, d, hp, hd, rfl⟩ := h.qp
  exact qneg_p hp (by omega) (by omega) (znz hd) _ (RatN.fr_neg z d)
theorem qadd_q {w : World} {v u : Value} {x y : Rat} {k j k' j' : Nat} (h : Qv w v x k j) (h' : Qv w u y k' j') (hk : k ≤ 150) (hj : j ≤ 150) (hk' : k' ≤ 150) (hj' : j' ≤ 150) : Calls Tryz.prog 20 #[v, u] w (QEnd (x + y) (max (k + max j' 2) (k' + max j 2) + 1) (max j 2 + max j' 2) w) := by
  obtain ⟨z, d, hp, hd, rfl⟩ := h.qp
  obtain ⟨z', e, hp', he, rfl⟩ := h'.qp
  exact qadd_p hp hp' hk hk' hj hj' (zmul_nz hd he) _ (RatN.fr_add z z' d e hd he)
theorem qsub_q {w : World} {v u : Value} {x y : Rat} {k j k' j' : Nat} (h : Qv w v x k j) (h' : Qv w u y k' j') (hk : k ≤ 150) (hj : j ≤ 150) (hk' : k' ≤ 150) (hj' : j' ≤ 150) : Calls Tryz.prog 21 #[v, u] w (QEnd (x - y) (max (k + max j' 2) (k' + max j 2) + 1) (max j 2 + max j' 2) w) := by
  obtain ⟨z, d, hp, hd, rfl⟩ := h.qp
  obtain ⟨z', e, hp', he, rfl⟩ := h'.qp
  exact qsub_p hp hp' hk hk' hj hj' (zmul_nz hd he) _ (RatN.fr_sub z z' d e hd he)
theorem qmul_q {w : World} {v u : Value} {x y : Rat} {k j k' j' : Nat} (h : Qv w v x k j) (h' : Qv w u y k' j') (hk : k ≤ 150) (hj : j ≤ 150) (hk' : k' ≤ 150) (hj' : j' ≤ 150) : Calls Tryz.prog 18 #[v, u] w (QEnd (x * y) (k + k') (max j 2 + max j' 2) w) := by
  obtain ⟨z, d, hp, hd, rfl⟩ := h.qp
  obtain ⟨z', e, hp', he, rfl⟩ := h'.qp
  exact qmul_p hp hp' hk hk' hj hj' (zmul_nz hd he) _ (RatN.fr_mul z z' d e hd he)
theorem qdiv_q0 {w : World} {v u : Value} {x y : Rat} {k j k' j' : Nat} (h : Qv w v x k j) (h' : Qv w u y k' j') (hk : k ≤ 150) (hj : j ≤ 150) (hk' : k' ≤ 150) (hj' : j' ≤ 150) (hy : y = 0) : Calls Tryz.prog 29 #[v, u] w (Q0End w) := by
  obtain ⟨z, d, hp, hd, rfl⟩ := h.qp
  obtain ⟨z', e, hp', he, rfl⟩ := h'.qp
  exact qdiv_0 hp hp' hk hk' hj hj' ((RatN.fr_zero z' d e hd he).mpr hy)
theorem qdiv_q {w : World} {v u : Value} {x y : Rat} {k j k' j' : Nat} (h : Qv w v x k j) (h' : Qv w u y k' j') (hk : k ≤ 150) (hj : j ≤ 150) (hk' : k' ≤ 150) (hj' : j' ≤ 150) (hy : y ≠ 0) : Calls Tryz.prog 29 #[v, u] w (QbEnd (x / y) (k + max j' 2) (k' + max j 2) w) := by
  obtain ⟨z, d, hp, hd, rfl⟩ := h.qp
  obtain ⟨z', e, hp', he, rfl⟩ := h'.qp
  have h0 : z' * (d : Int) ≠ 0 := fun h => hy ((RatN.fr_zero z' d e hd he).mp h)
  exact qdiv_p hp hp' hk hk' hj hj' h0 _ (RatN.fr_div z z' d e hd he h0)
theorem qcmp_q {w : World} {v u : Value} {x y : Rat} {k j k' j' : Nat} (h : Qv w v x k j) (h' : Qv w u y k' j') (hk : k ≤ 200) (hj : j ≤ 200) (hk' : k' ≤ 200) (hj' : j' ≤ 200) (o : Int) (ho : RatN.cmpQ x y = o) : Calls Tryz.prog 15 #[v, u] w (I64End o w) := by
  obtain ⟨z, d, hp, hd, rfl⟩ := h.qp
  obtain ⟨z', e, hp', he, rfl⟩ := h'.qp
  exact qcmp_p hp hp' hk hk' hj hj' o (by rw [RatN.fr_cmp z z' d e hd he]; exact ho)
theorem qfloor_q {w : World} {v : Value} {x : Rat} {k j : Nat} (h : Qv w v x k j) (hk : k ≤ 150) (hj : j ≤ 150) : Calls Tryz.prog 31 #[v] w (IEnd x.floor (k + 3) w) := by
  obtain ⟨z, d, hp, hd, rfl⟩ := h.qp
  rw [← RatN.fr_floor z d hd]
  exact qfloor_p hp (by omega) (by omega) (znz hd)
theorem qround_q {w : World} {v : Value} {x : Rat} {k j : Nat} (h : Qv w v x k j) (hk : k ≤ 150) (hj : j ≤ 150) : Calls Tryz.prog 26 #[v] w (IEnd (RatN.roundQ x) (max k j + 5) w) := by
  obtain ⟨z, d, hp, hd, rfl⟩ := h.qp
  exact qround_p hp (by omega) (by omega) hd _ (fun b m hz => by rw [hz]; exact RatN.fr_round b m d hd)
theorem qof_q (a b : Int) (ha : -9223372036854775808 ≤ a) (ha' : a < 9223372036854775808) (hb : -9223372036854775808 ≤ b) (hb' : b < 9223372036854775808) (w : World) (h0 : b ≠ 0) : Calls Tryz.prog 17 #[.int .i64 a, .int .i64 b] w (QbEnd ((a : Rat) / (b : Rat)) 2 2 w) := qof_p a b ha ha' hb hb' w h0 _ rfl
end Go.Proofs.YtohlilgnognmgaaGreatDoor
