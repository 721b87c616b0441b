/-
  The walk of garmentlaw03.of: an integer as a ratio.
-/
import Derived.Test.YtfdildganfjahaaDoorRatC
namespace Go.Proofs.YtfdildganfjahaaDoor
open Go.RowKit
attribute [local go_sem ↓] Go.wp_at_zero Go.wp_at_succ
set_option linter.unusedVariables false

theorem one_nz (W : World) : Nz (W.alloc (.cells #[.int .u32 1] 28)) (.slice (some ⟨W.heap.size, 0, none⟩) 1 1) 1 1 :=
  ⟨[1], Rd.lit W [1] _ _ 1 rfl rfl rfl (lim1 1 (by decide)) (by decide), nrm1 1 (by decide), rfl, Nat.le_refl _⟩
set_option maxRecDepth 20000 in
theorem of_q {w : World} {va : Value} {z : Int} {k : Nat} (ha : Iz w va z k) : Calls Tryd.prog 25 #[va] w (QEnd (z : Rat) k 1 w) := by
  obtain ⟨ba, Aa, na, ca, rfl, ha⟩ := ha.cells
  have B0 := below_a2 w (.cells #[.bool ba, .slice Aa na ca] 25) (.cells #[.bool false, .slice none 0 0, .slice none 0 0] 27)
  have ha := ha.below B0
  have ka := ((Bx.new w (w.heap.size) (by simp) (.bool ba) (.slice Aa na ca)).below (below_alloc (w.alloc (.cells #[.bool ba, .slice Aa na ca] 25)) (.cells #[.bool false, .slice none 0 0, .slice none 0 0] 27)))
  have kr := (Rq.new (w.alloc (.cells #[.bool ba, .slice Aa na ca] 25)) (w.heap.size + 1) (by simp))
  go_enter Tryd.func25, Tryd.ntmps25
  go_upto_region 1 with fail
  obtain ⟨W, hW⟩ : ∃ W0, ((w.alloc (.cells #[.bool ba, .slice Aa na ca] 25)).alloc (.cells #[.bool false, .slice none 0 0, .slice none 0 0] 27)) = W0 := ⟨_, rfl⟩
  rw [hW] at ha ka kr B0 ⊢
  clear hW
  have hd := one_nz W
  have bb := below_alloc W (.cells #[.int .u32 1] 28)
  have ha1 := ha.below bb
  have kr1 := kr.below bb
  have B1 := B0.trans (bb.mono B0.size)
  have ka_0 := ka.c0
  have ka_1 := ka.c1
  have kr_0 := kr.1
  have kr_1 := kr.2.1
  have kr_2 := kr.2.2.1
  have kr_3 := kr.2.2.2.1
  have kr_4 := kr.2.2.2.2.1
  have kr_5 := kr.2.2.2.2.2
  have j_0 := kr1.1
  have j_1 := kr1.2.1
  have j_2 := kr1.2.2.1
  have j_3 := kr1.2.2.2.1
  have j_4 := kr1.2.2.2.2.1
  have j_5 := kr1.2.2.2.2.2
  clear bb
  go_wp2
  refine bodyPost_ret (v := .agg #[.bool ba, .slice Aa na ca, .slice (some ⟨W.heap.size, 0, none⟩) 1 1]) (by simp [results, Tryd.results25, go_sem, j_0, j_1, j_2]) rfl ⟨_, _, _, _, _, _, _, rfl, Qz.mk (ha1.ret3 kr1 _ _ _) (hd.ret3 kr1 _ _ _) rfl rfl, below_ret3 B1 (by omega) _ _ _⟩
end Go.Proofs.YtfdildganfjahaaDoor
