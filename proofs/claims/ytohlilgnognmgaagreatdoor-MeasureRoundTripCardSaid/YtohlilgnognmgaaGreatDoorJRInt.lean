import Derived.Test.YtohlilgnognmgaaGreatDoorJInt
import Derived.Test.YtohlilgnognmgaaGreatDoorJRef
import Derived.Deep.DeepCutAuto
import Derived.Deep.RegionWith
import Derived.Laws.BitsAllLaws
import Derived.Test.YtohlilgnognmgaaGreatDoorJText
import Derived.Test.YtohlilgnognmgaaGreatDoorShelf
/-
  The walks of garmentref02.make1, Norm, Neg, Add, Sub, Mul, Of and Short.
-/
namespace Go.Proofs.YtohlilgnognmgaaGreatDoor
open Go.RowKit
attribute [local go_sem ↓] Go.wp_at_zero Go.wp_at_succ
set_option linter.unusedVariables false

theorem sgn_len {w : World} {A : Option Addr} {n c m k : Nat} (h : Nz w (.slice A n c) m k) : Iz w (.agg #[.bool (decide (0 < n)), .slice A n c]) (sgn true m) k := by
  have := Iz.mk true h _ rfl
  simpa using this
set_option maxRecDepth 20000 in
set_option maxHeartbeats 1000000 in
theorem make1_false {w : World} {v : Value} {m k : Nat} (hm : Nm w v m k) (hk : k ≤ 900) : Calls Tryz.prog 89 #[.bool false, v] w (IEnd (sgn false m) k w) := by
  have B0 := below_a1 w (.cells #[.bool false, .slice none 0 0] 25)
  have hm := hm.below B0
  have kr := (Rx.new w (w.heap.size) (by simp))
  go_enter Tryz.func89, Tryz.ntmps89
  have kr0 := kr.1
  have kr1 := kr.2.1
  have kr2 := kr.2.2.1
  have kr3 := kr.2.2.2
  go_wp2_with fail
  refine (rnorm_n hm (by omega)).mono ?_
  clear kr0 kr1 kr2 kr3
  rintro e w1 ⟨v1, rfl, z1, bb⟩
  have hm := hm.below bb
  have kr := kr.below bb
  have B0 := B0.trans (bb.mono B0.size)
  clear bb
  have z1 := z1.nz
  obtain ⟨A2, n2, c2, rfl, _, _⟩ := z1.nm.form
  have zr := Iz.mk false z1 _ rfl
  simp only [Bool.false_and] at zr
  have kr0 := kr.1
  have kr1 := kr.2.1
  have kr2 := kr.2.2.1
  have kr3 := kr.2.2.2
  go_wp2
  refine bodyPost_ret (v := .agg #[.bool false, .slice A2 n2 c2]) (by simp [results, Tryz.results89, go_sem, kr0, kr1]) rfl ⟨_, rfl, zr.ret kr _ _, below_ret B0 (by omega) _ _⟩
set_option maxRecDepth 20000 in
set_option maxHeartbeats 1000000 in
theorem make1_true {w : World} {v : Value} {m k : Nat} (hm : Nm w v m k) (hk : k ≤ 900) : Calls Tryz.prog 89 #[.bool true, v] w (IEnd (sgn true m) k w) := by
  have B0 := below_a1 w (.cells #[.bool false, .slice none 0 0] 25)
  have hm := hm.below B0
  have kr := (Rx.new w (w.heap.size) (by simp))
  go_enter Tryz.func89, Tryz.ntmps89
  have kr0 := kr.1
  have kr1 := kr.2.1
  have kr2 := kr.2.2.1
  have kr3 := kr.2.2.2
  go_wp2_with fail
  refine (rnorm_n hm (by omega)).mono ?_
  clear kr0 kr1 kr2 kr3
  rintro e w1 ⟨v1, rfl, z1, bb⟩
  have hm := hm.below bb
  have kr := kr.below bb
  have B0 := B0.trans (bb.mono B0.size)
  clear bb
  have z1 := z1.nz
  obtain ⟨A2, n2, c2, rfl, _, _⟩ := z1.nm.form
  have zr := sgn_len z1
  have kr0 := kr.1
  have kr1 := kr.2.1
  have kr2 := kr.2.2.1
  have kr3 := kr.2.2.2
  go_wp2
  refine bodyPost_ret (v := .agg #[.bool (decide (0 < n2)), .slice A2 n2 c2]) (by simp [results, Tryz.results89, go_sem, kr0, kr1]) rfl ⟨_, rfl, zr.ret kr _ _, below_ret B0 (by omega) _ _⟩
theorem make1_i {w : World} {v : Value} {m k : Nat} (b : Bool) (hm : Nm w v m k) (hk : k ≤ 900) (z : Int) (hz : z = sgn b m) : Calls Tryz.prog 89 #[.bool b, v] w (IEnd z k w) := by
  subst hz
  cases b
  · exact make1_false hm hk
  · exact make1_true hm hk
set_option maxRecDepth 20000 in
set_option maxHeartbeats 1000000 in
theorem rnorm_i {w : World} {v : Value} {z : Int} {k : Nat} (h : Iv w v z k) (hk : k ≤ 900) : Calls Tryz.prog 58 #[v] w (IEnd (z) k w) := by
  obtain ⟨b, A, n, c, m, rfl, hm, hz⟩ := h
  have HZ : Hid (z = sgn b m) := by show _ = _; rw [hz]
  clear hz
  have B0 := below_a2 w (.cells #[.bool b, .slice A n c] 25) (.cells #[.bool false, .slice none 0 0] 25)
  have hm := hm.below B0
  have ka := ((Bx.new w (w.heap.size) (by simp) (.bool b) (.slice A n c)).below (below_alloc (w.alloc (.cells #[.bool b, .slice A n c] 25)) (.cells #[.bool false, .slice none 0 0] 25)))
  have kr := (Rx.new (w.alloc (.cells #[.bool b, .slice A n c] 25)) (w.heap.size + 1) (by simp))
  go_enter Tryz.func58, Tryz.ntmps58
  have ka0 := ka.1
  have ka1 := ka.2
  have kr0 := kr.1
  have kr1 := kr.2.1
  have kr2 := kr.2.2.1
  have kr3 := kr.2.2.2
  go_wp2_with fail
  refine (make1_i b hm (by omega) _ HZ.out).mono ?_
  clear ka0 ka1 kr0 kr1 kr2 kr3
  rintro e w1 ⟨vr, rfl, zr, bb⟩
  have hm := hm.below bb
  have ka := ka.below bb
  have kr := kr.below bb
  have B0 := B0.trans (bb.mono B0.size)
  clear bb
  obtain ⟨br, Ar, nr, cr, rfl, zr⟩ := zr.cells
  have ka0 := ka.1
  have ka1 := ka.2
  have kr0 := kr.1
  have kr1 := kr.2.1
  have kr2 := kr.2.2.1
  have kr3 := kr.2.2.2
  go_wp2
  refine bodyPost_ret (v := .agg #[.bool br, .slice Ar nr cr]) (by simp [results, Tryz.results58, go_sem, kr0, kr1]) rfl ⟨_, rfl, zr.ret kr _ _, below_ret B0 (by omega) _ _⟩
theorem rof_z' {w : World} (z : Int) (n : Nat) (hz : z = (n : Int)) (hn : n < 18446744073709551616) : Calls Tryz.prog 47 #[.int .u64 z] w (NEnd n 2 w) := by
  subst hz
  exact rof_n n hn
set_option maxRecDepth 20000 in
set_option maxHeartbeats 1000000 in
theorem riof_p (n : Int) (h : 0 ≤ n) (h' : n < 9223372036854775808) (w : World) : Calls Tryz.prog 50 #[.int .i64 n] w (IEnd n 2 w) := by
  have B0 := below_a1 w (.cells #[.bool false, .slice none 0 0] 25)
  have kr := (Rx.new w (w.heap.size) (by simp))
  go_enter Tryz.func50, Tryz.ntmps50
  have kr0 := kr.1
  have kr1 := kr.2.1
  have kr2 := kr.2.2.1
  have kr3 := kr.2.2.2
  go_wp2_with fail
  refine (rof_z' _ n.natAbs ?_ ?_).mono ?_
  · first | omega | (rw [IntKind.wrap_u64]; unfold wrap64; omega) | (simp only [IntKind.wrap_u64]; omega)
  · omega
  clear kr0 kr1 kr2 kr3
  rintro e w1 ⟨v1, rfl, z1, bb⟩
  have kr := kr.below bb
  have B0 := B0.trans (bb.mono B0.size)
  clear bb
  obtain ⟨A2, n2, c2, rfl, _, _⟩ := z1.nm.form
  have zr : Iz w1 (.agg #[.bool false, .slice A2 n2 c2]) n 2 := ⟨_, _, _, _, n.natAbs, rfl, z1, by simp [sgn]; omega, fun e => by first | rfl | omega⟩
  have kr0 := kr.1
  have kr1 := kr.2.1
  have kr2 := kr.2.2.1
  have kr3 := kr.2.2.2
  go_wp2
  refine bodyPost_ret (v := .agg #[.bool false, .slice A2 n2 c2]) (by simp [results, Tryz.results50, go_sem, kr0, kr1]) rfl ⟨_, rfl, zr.ret kr _ _, below_ret B0 (by omega) _ _⟩
set_option maxRecDepth 20000 in
set_option maxHeartbeats 1000000 in
theorem riof_m (n : Int) (h : n < 0) (h' : -9223372036854775808 ≤ n) (w : World) : Calls Tryz.prog 50 #[.int .i64 n] w (IEnd n 2 w) := by
  have B0 := below_a1 w (.cells #[.bool false, .slice none 0 0] 25)
  have kr := (Rx.new w (w.heap.size) (by simp))
  go_enter Tryz.func50, Tryz.ntmps50
  have kr0 := kr.1
  have kr1 := kr.2.1
  have kr2 := kr.2.2.1
  have kr3 := kr.2.2.2
  go_wp2_with fail
  refine (rof_z' _ n.natAbs ?_ ?_).mono ?_
  · first | omega | (rw [IntKind.wrap_u64]; unfold wrap64; omega) | (simp only [IntKind.wrap_u64]; omega)
  · omega
  clear kr0 kr1 kr2 kr3
  rintro e w1 ⟨v1, rfl, z1, bb⟩
  have kr := kr.below bb
  have B0 := B0.trans (bb.mono B0.size)
  clear bb
  obtain ⟨A2, n2, c2, rfl, _, _⟩ := z1.nm.form
  have zr : Iz w1 (.agg #[.bool true, .slice A2 n2 c2]) n 2 := ⟨_, _, _, _, n.natAbs, rfl, z1, by simp [sgn]; omega, fun e => by first | rfl | omega⟩
  have kr0 := kr.1
  have kr1 := kr.2.1
  have kr2 := kr.2.2.1
  have kr3 := kr.2.2.2
  go_wp2
  refine bodyPost_ret (v := .agg #[.bool true, .slice A2 n2 c2]) (by simp [results, Tryz.results50, go_sem, kr0, kr1]) rfl ⟨_, rfl, zr.ret kr _ _, below_ret B0 (by omega) _ _⟩
theorem riof_i (n : Int) (h : -9223372036854775808 ≤ n) (h' : n < 9223372036854775808) (w : World) : Calls Tryz.prog 50 #[.int .i64 n] w (IEnd n 2 w) := by
  rcases Int.lt_or_le n 0 with h0 | h0
  · exact riof_m n h0 h w
  · exact riof_p n h0 h' w
def BoolEnd (b : Bool) (w : World) (e : Ending) (w' : World) : Prop := e = .returned (.bool b) ∧ Below w.heap.size w w'
end Go.Proofs.YtohlilgnognmgaaGreatDoor
/-
  The walk of garmentref02.Cmp.
-/
namespace Go.Proofs.YtohlilgnognmgaaGreatDoor
open Go.RowKit
attribute [local go_sem ↓] Go.wp_at_zero Go.wp_at_succ
set_option linter.unusedVariables false

end Go.Proofs.YtohlilgnognmgaaGreatDoor
/-
  The walk of garmentref02.DivMod.
-/
namespace Go.Proofs.YtohlilgnognmgaaGreatDoor
open Go.RowKit
attribute [local go_sem ↓] Go.wp_at_zero Go.wp_at_succ
set_option linter.unusedVariables false

theorem div_m' (c : Bool) (m m' : Nat) (h : 0 < m') (h' : 0 < m % m') : sgn (!(true == c)) (m / m' + 1) = sgn true m / sgn c m' ∧ sgn false (m' - m % m') = sgn true m % sgn c m' := by
  rcases div_m c m m' h with e | e
  · exact ⟨e.1, e.2 h'⟩
  · omega
/-- Quotient and remainder, or the zero values. -/
def DEnd (z y : Int) (k j : Nat) (w : World) (e : Ending) (w' : World) : Prop := if y = 0 then ID0End w e w' else IDEnd (z / y) (z % y) k j w e w'
theorem DEnd.zero {z y : Int} {k j : Nat} {w : World} {e : Ending} {w' : World} (hy : y = 0) (h : ID0End w e w') : DEnd z y k j w e w' := by
  unfold DEnd; rw [if_pos hy]; exact h
theorem DEnd.some {z y q r : Int} {k j : Nat} {w : World} {e : Ending} {w' : World} (hy : y ≠ 0) (h : IDEnd q r k j w e w') (hq : q = z / y) (hr : r = z % y) : DEnd z y k j w e w' := by
  unfold DEnd; rw [if_neg hy, ← hq, ← hr]; exact h
end Go.Proofs.YtohlilgnognmgaaGreatDoor
/-
  The walk of integer.Small.
-/
namespace Go.Proofs.YtohlilgnognmgaaGreatDoor
open Go.RowKit
attribute [local go_sem ↓] Go.wp_at_zero Go.wp_at_succ
set_option linter.unusedVariables false

theorem or_hi (s y : Nat) (hs : s < 4294967296) (hy : y < 4294967296) : bits .or .i64 (s : Int) (wrap64 ((y : Int) * 4294967296)) = wrap64 ((y * 4294967296 + s : Nat) : Int) := by
  have e1 : (BitVec.ofInt 64 (wrap64 ((y : Int) * 4294967296))).toNat = y * 4294967296 := by
    rw [BitVec.toNat_ofInt]
    unfold wrap64
    omega
  show IntKind.i64.wrap ((BitVec.ofInt 64 (s : Int) ||| BitVec.ofInt 64 (wrap64 ((y : Int) * 4294967296))).toNat : Int) = _
  rw [BitVec.toNat_or, ofInt_u64 s (by omega), e1, Nat.or_comm, nat_join 32 (y * 4294967296) s (by omega) (by omega)]
  rw [IntKind.wrap_i64]
  unfold wrap64
  omega
theorem or_lo (y : Nat) (hy : y < 4294967296) : bits .or .i64 0 (y : Int) = (y : Int) := by
  show IntKind.i64.wrap ((BitVec.ofInt 64 (0 : Int) ||| BitVec.ofInt 64 (y : Int)).toNat : Int) = _
  rw [BitVec.toNat_or, ofInt_u64 y (by omega)]
  simp
  rw [IntKind.wrap_i64]
  omega
theorem take_one (l : List Nat) (x : Nat) (h : l[0]? = some x) : Num.val (l.take 1) = x := by
  have := val_take_succ l 0 x h
  simpa [Num.val] using this
theorem take_two (l : List Nat) (x y : Nat) (h : l[0]? = some x) (h' : l[1]? = some y) : y * 4294967296 + x = Num.val (l.take 2) := by
  have h1 := val_take_succ l 1 y h'
  rw [take_one l x h, Nat.pow_one, Num.K_eq] at h1
  rw [show 2 = 1 + 1 from rfl, h1]
  omega
theorem wrap_id (m : Int) (h1 : -9223372036854775808 ≤ m) (h2 : m < 9223372036854775808) : wrap64 m = m := by unfold wrap64; omega
theorem neg_wrap (m : Nat) (h : m ≤ 9223372036854775808) : wrap64 (-(wrap64 (m : Int))) = -(m : Int) := by
  rcases Nat.lt_or_ge m 9223372036854775808 with h1 | h1
  · rw [wrap_id (m : Int) (by omega) (by omega), wrap_id (-(m : Int)) (by omega) (by omega)]
  · have e : (m : Int) = 9223372036854775808 := by omega
    have e2 : wrap64 (9223372036854775808 : Int) = -9223372036854775808 := by unfold wrap64; omega
    have e3 : wrap64 (-(-9223372036854775808 : Int)) = -9223372036854775808 := by unfold wrap64; omega
    rw [e, e2, e3]
def SmallEnd (n : Int) (b : Bool) (w : World) (e : Ending) (w' : World) : Prop := e = .returned (.tuple #[.int .i64 n, .bool b]) ∧ Below w.heap.size w w'
set_option maxRecDepth 20000 in
set_option maxHeartbeats 1000000 in
theorem ismall_lo {w : World} {b : Bool} {A : Option Addr} {n c m k : Nat} (hm : Nm w (.slice A n c) m k) (hk : k ≤ 900) (h : sgn b m < -9223372036854775808) : Calls Tryz.prog 25 #[.agg #[.bool b, .slice A n c]] w (SmallEnd 0 false w) := by
  obtain ⟨c1, hc1, h1⟩ : ∃ c1 : Int, c1 < 0 ∧ cmpZ (sgn b m) (-9223372036854775808) = c1 := ⟨_, by have := cmpZ_cases (sgn b m) (-9223372036854775808); omega, rfl⟩
  have H1 := Lib.hid h1
  clear h1 h
  have B0 := below_a1 w (.cells #[.bool b, .slice A n c] 25)
  have hm := hm.below B0
  have ka := (Bx.new w (w.heap.size) (by simp) (.bool b) (.slice A n c))
  go_enter Tryz.func25, Tryz.ntmps25
  go_wp2_with fail
  have hm := hm.drew
  have ka := ka.drew
  have B0 := b_drew B0
  have ka0 := ka.1
  have ka1 := ka.2
  go_region_with (first
      | (go_at_call 43; (with_reducible refine (iof_i (-9223372036854775808) (by decide) (by decide) _).mono ?_); rintro e w1 ⟨v1, rfl, z1, bb⟩; have hm := hm.below bb; have ka := ka.below bb; have B0 := B0.trans (bb.mono B0.size); clear bb; have ka0 := ka.1; have ka1 := ka.2)
      | (go_at_call 37; (with_reducible refine (icmp_i (hm.iv b) z1.iv _ H1.out).mono ?_); rintro e w2 ⟨rfl, bb⟩; have hm := hm.below bb; have ka := ka.below bb; have z1 := z1.below bb; have B0 := B0.trans (bb.mono B0.size); clear bb; have ka0 := ka.1; have ka1 := ka.2))
  all_goals go_wp2
  all_goals go_ret2
  all_goals exact ⟨rfl, B0⟩
set_option maxRecDepth 20000 in
set_option maxHeartbeats 1000000 in
theorem ismall_hi {w : World} {b : Bool} {A : Option Addr} {n c m k : Nat} (hm : Nm w (.slice A n c) m k) (hk : k ≤ 900) (h : 9223372036854775807 < sgn b m) : Calls Tryz.prog 25 #[.agg #[.bool b, .slice A n c]] w (SmallEnd 0 false w) := by
  obtain ⟨c1, hc1, h1⟩ : ∃ c1 : Int, 0 ≤ c1 ∧ cmpZ (sgn b m) (-9223372036854775808) = c1 := ⟨_, by have := cmpZ_cases (sgn b m) (-9223372036854775808); omega, rfl⟩
  obtain ⟨c2, hc2, h2⟩ : ∃ c2 : Int, 0 < c2 ∧ cmpZ (sgn b m) (9223372036854775807) = c2 := ⟨_, by have := cmpZ_cases (sgn b m) (9223372036854775807); omega, rfl⟩
  have H1 := Lib.hid h1
  have H2 := Lib.hid h2
  clear h1 h2 h
  have hd1 : decide (c1 < 0) = false := decide_eq_false (by omega)
  have hd2 : decide (0 < c2) = true := decide_eq_true hc2
  have B0 := below_a1 w (.cells #[.bool b, .slice A n c] 25)
  have hm := hm.below B0
  have ka := (Bx.new w (w.heap.size) (by simp) (.bool b) (.slice A n c))
  go_enter Tryz.func25, Tryz.ntmps25
  go_wp2_with fail
  have hm := hm.drew
  have ka := ka.drew
  have B0 := b_drew B0
  go_region_held3 (fun w' => w'.cell? ⟨w.heap.size, 0, none⟩ = some (.bool b) ∧ w'.cell? ⟨w.heap.size, 1, none⟩ = some (.slice A n c)) (first | exact ⟨ka.1, ka.2⟩)
    (first
      | (go_at_call 43; (with_reducible refine (iof_i (-9223372036854775808) (by decide) (by decide) _).mono ?_); rintro e w1 ⟨v1, rfl, z1, bb⟩; have hm := hm.below bb; have ka := ka.below bb; have B0 := B0.trans (bb.mono B0.size); clear bb)
      | (go_at_call 37; (with_reducible refine (icmp_i (hm.iv b) z1.iv _ H1.out).mono ?_); rintro e w2 ⟨rfl, bb⟩; have hm := hm.below bb; have ka := ka.below bb; have z1 := z1.below bb; have B0 := B0.trans (bb.mono B0.size); clear bb)
      | (go_at_call 43; (with_reducible refine (iof_i 9223372036854775807 (by decide) (by decide) _).mono ?_); rintro e w3 ⟨v2, rfl, z2, bb⟩; have hm := hm.below bb; have ka := ka.below bb; have B0 := B0.trans (bb.mono B0.size); clear bb)
      | (go_at_call 37; (with_reducible refine (icmp_i (hm.iv b) z2.iv _ H2.out).mono ?_); rintro e w4 ⟨rfl, bb⟩; have hm := hm.below bb; have ka := ka.below bb; have z2 := z2.below bb; have B0 := B0.trans (bb.mono B0.size); clear bb))
  go_wp2
  go_ret2
  exact ⟨rfl, B0⟩
set_option maxRecDepth 20000 in
set_option maxHeartbeats 1000000 in
theorem ismall_in {w : World} {b : Bool} {A : Option Addr} {n c m k : Nat} (hm : Nm w (.slice A n c) m k) (hk : k ≤ 900) (h1 : -9223372036854775808 ≤ sgn b m) (h2 : sgn b m ≤ 9223372036854775807) : Calls Tryz.prog 25 #[.agg #[.bool b, .slice A n c]] w (SmallEnd (sgn b m) true w) := by
  obtain ⟨c1, hc1, h1'⟩ : ∃ c1 : Int, 0 ≤ c1 ∧ cmpZ (sgn b m) (-9223372036854775808) = c1 := ⟨_, by have := cmpZ_cases (sgn b m) (-9223372036854775808); omega, rfl⟩
  obtain ⟨c2, hc2, h2'⟩ : ∃ c2 : Int, c2 ≤ 0 ∧ cmpZ (sgn b m) (9223372036854775807) = c2 := ⟨_, by have := cmpZ_cases (sgn b m) (9223372036854775807); omega, rfl⟩
  have H1 := Lib.hid h1'
  have H2 := Lib.hid h2'
  clear h1' h2'
  have hd1 : decide (c1 < 0) = false := decide_eq_false (by omega)
  have hd2 : decide (0 < c2) = false := decide_eq_false (by omega)
  have hmb : m ≤ 9223372036854775808 := by have := sgn_abs b m; omega
  have HA := Lib.hid h1
  have HB := Lib.hid h2
  clear h1 h2
  have B0 := below_a1 w (.cells #[.bool b, .slice A n c] 25)
  have hm := hm.below B0
  have ka := (Bx.new w (w.heap.size) (by simp) (.bool b) (.slice A n c))
  go_enter Tryz.func25, Tryz.ntmps25
  go_wp2_with fail
  have hm := hm.drew
  have ka := ka.drew
  have B0 := b_drew B0
  go_region_held3 (fun w' => w'.cell? ⟨w.heap.size, 0, none⟩ = some (.bool b) ∧ w'.cell? ⟨w.heap.size, 1, none⟩ = some (.slice A n c)) (first | exact ⟨ka.1, ka.2⟩)
    (first
      | (go_at_call 43; (with_reducible refine (iof_i (-9223372036854775808) (by decide) (by decide) _).mono ?_); rintro e w1 ⟨v1, rfl, z1, bb⟩; have hm := hm.below bb; have ka := ka.below bb; have B0 := B0.trans (bb.mono B0.size); clear bb)
      | (go_at_call 37; (with_reducible refine (icmp_i (hm.iv b) z1.iv _ H1.out).mono ?_); rintro e w2 ⟨rfl, bb⟩; have hm := hm.below bb; have ka := ka.below bb; have z1 := z1.below bb; have B0 := B0.trans (bb.mono B0.size); clear bb)
      | (go_at_call 43; (with_reducible refine (iof_i 9223372036854775807 (by decide) (by decide) _).mono ?_); rintro e w3 ⟨v2, rfl, z2, bb⟩; have hm := hm.below bb; have ka := ka.below bb; have B0 := B0.trans (bb.mono B0.size); clear bb)
      | (go_at_call 37; (with_reducible refine (icmp_i (hm.iv b) z2.iv _ H2.out).mono ?_); rintro e w4 ⟨rfl, bb⟩; have hm := hm.below bb; have ka := ka.below bb; have z2 := z2.below bb; have B0 := B0.trans (bb.mono B0.size); clear bb))
  have ka0 := ka.1
  have ka1 := ka.2
  go_wp2_with fail
  refine (norm_n hm (by omega)).mono ?_
  clear ka0 ka1
  rintro e w5 ⟨v1, rfl, z1, bb⟩
  have hm := hm.below bb
  have ka := ka.below bb
  have B0 := B0.trans (bb.mono B0.size)
  clear bb
  obtain ⟨l, hr, hn, hv, hl⟩ := z1
  have hl2 : l.length ≤ 2 := hn.len_le (by rw [hv]; exact Nat.lt_of_le_of_lt hmb (by decide))
  obtain ⟨A2, n2, c2', rfl, Hn, hlc, hcc, HL, hA⟩ := hr.open_
  have hn2 : n2 ≤ 2 := by have := Hn.out; omega
  have HV := Lib.hid hv
  clear hv hn hl hl2
  have ka0 := ka.1
  have ka1 := ka.2
  go_wp2
  go_loop [4, 21] (fun x i => ∃ k : Nat, k ≤ n2 ∧ i = .int .i64 k ∧ ∃ s : Int, x = .int .i64 s ∧ Hid (s = wrap64 (Num.val (l.take k)))) (fun _ i => n2 - (intOf i).toNat)
  case atStart => exact ⟨0, Nat.zero_le _, rfl, 0, rfl, by show (0 : Int) = _; simp [Num.val, wrap64]⟩
  case round =>
    obtain ⟨k, hk, rfl, s, rfl, Hs⟩ := hrel
    by_cases hlt : k < n2
    · obtain ⟨y, hy⟩ : ∃ y, l[k]? = some y := ⟨_, List.getElem?_eq_getElem (by have := Hn.out; omega)⟩
      have hyb : y < 4294967296 := HL.out.at hy
      obtain ⟨g, off, rfl, _, hc⟩ := hA (by have := Hn.out; omega)
      have hcy := hc _ _ hy
      have Hy := Lib.hid hy
      clear hc hy
      by_cases h0 : k = 0
      · subst h0
        have hs0 : s = 0 := by rw [Hs.out]; simp [Num.val, wrap64]
        subst hs0
        rw [Nat.add_zero] at hcy
        have hor := or_lo y hyb
        go_wp2
        go_round
        case rel => exact ⟨1, by omega, rfl, (y : Int), rfl, by show (y : Int) = _; rw [take_one l y Hy.out]; unfold wrap64; omega⟩
        case measure => simp [intOf] <;> omega
      · obtain rfl : k = 1 := by omega
        obtain ⟨x, hx⟩ : ∃ x, l[0]? = some x := ⟨_, List.getElem?_eq_getElem (by have := Hn.out; omega)⟩
        have hxb : x < 4294967296 := HL.out.at hx
        have hor := or_hi x y hxb hyb
        have hv : s = (x : Int) := by
          rw [Hs.out, take_one l x hx]
          unfold wrap64
          omega
        subst hv
        clear h0
        have Hx := Lib.hid hx
        clear hx
        go_wp2
        go_round
        case rel => exact ⟨2, by omega, rfl, _, rfl, by show wrap64 _ = wrap64 _; rw [← take_two l x y Hx.out Hy.out]; congr 1⟩
        case measure => simp [intOf] <;> omega
    · have hs : s = wrap64 (m : Int) := by rw [Hs.out, List.take_of_length_le (by have := Hn.out; omega), HV.out]
      have hz1 := HA.out
      have hz2 := HB.out
      have BE := Lib.hid B0
      clear B0
      cases b
      · have hs' : s = (m : Int) := by rw [hs]; simp only [sgn_false] at hz2; exact wrap_id _ (by omega) (by omega)
        clear hs hz1 hz2
        subst hs'
        go_wp2
        go_ret2
        exact ⟨rfl, BE.out⟩
      · have hs' : wrap64 (-s) = -(m : Int) := by rw [hs]; exact neg_wrap m hmb
        have HS := Lib.hid hs'
        clear hs hz1 hz2 hs'
        go_wp2
        go_ret2
        rw [sgn_true, ← HS.out]
        exact ⟨rfl, BE.out⟩
theorem ismall_yes {w : World} {v : Value} {z : Int} {k : Nat} (h : Iv w v z k) (hk : k ≤ 900) (h1 : -9223372036854775808 ≤ z) (h2 : z ≤ 9223372036854775807) : Calls Tryz.prog 25 #[v] w (SmallEnd z true w) := by
  obtain ⟨b, A, n, c, m, rfl, hm, rfl⟩ := h
  exact ismall_in hm hk h1 h2
theorem ismall_no {w : World} {v : Value} {z : Int} {k : Nat} (h : Iv w v z k) (hk : k ≤ 900) (h1 : z < -9223372036854775808 ∨ 9223372036854775807 < z) : Calls Tryz.prog 25 #[v] w (SmallEnd 0 false w) := by
  obtain ⟨b, A, n, c, m, rfl, hm, rfl⟩ := h
  rcases h1 with h1 | h1
  · exact ismall_lo hm hk h1
  · exact ismall_hi hm hk h1
end Go.Proofs.YtohlilgnognmgaaGreatDoor
/-
  The walks of garmentref02.Text and Small.
-/
namespace Go.Proofs.YtohlilgnognmgaaGreatDoor
open Go.RowKit
attribute [local go_sem ↓] Go.wp_at_zero Go.wp_at_succ
set_option linter.unusedVariables false

theorem neg_of {z : Int} {b : Bool} {m : Nat} (hz : z = sgn b m) (e : b = true) (h0 : m = 0 → b = false) : z < 0 := by
  subst e
  have : m ≠ 0 := fun e => absurd (h0 e) (by simp)
  rw [hz, sgn_true]
  omega
set_option maxRecDepth 20000 in
set_option maxHeartbeats 1000000 in
theorem rismall_big {w : World} {b : Bool} {A : Option Addr} {n c k : Nat} {z : Int} (h : Iv w (.agg #[.bool b, .slice A n c]) z k) (hk : k ≤ 900) (hz : 18446744073709551616 ≤ z.natAbs) : Calls Tryz.prog 27 #[.agg #[.bool b, .slice A n c]] w (SmallEnd 0 false w) := by
  have B0 := below_a1 w (.cells #[.bool b, .slice A n c] 25)
  have h := h.below B0
  have ka := (Bx.new w (w.heap.size) (by simp) (.bool b) (.slice A n c))
  go_enter Tryz.func27, Tryz.ntmps27
  have ka0 := ka.1
  have ka1 := ka.2
  go_wp2_with fail
  refine (rnorm_i h (by omega)).mono ?_
  clear ka0 ka1
  rintro e w1 ⟨v1, rfl, z1, bb⟩
  have h := h.below bb
  have ka := ka.below bb
  have B0 := B0.trans (bb.mono B0.size)
  clear bb
  obtain ⟨b1, A1, n1, c1, rfl, z1⟩ := z1.cells
  obtain ⟨m, zp, hz', h0⟩ := z1.parts
  clear z1
  have hm : z.natAbs = m := by rw [hz']; exact sgn_abs b1 m
  have hn3 : 2 < n1 := by
    obtain ⟨l, hr, hn, hv, hl⟩ := zp
    have h1 := hr.addr
    rcases Nat.lt_or_ge 2 l.length with h | h
    · omega
    · have h2 := Num.val_lt l hr.lim
      have h3 : Num.K ^ l.length ≤ Num.K ^ 2 := Nat.pow_le_pow_right Num.K_pos h
      have h4 : Num.K ^ 2 = 18446744073709551616 := by decide
      omega
  have hnb := zp.len0.2.2
  clear hm h0 hz'
  have zp := zp.below (below_alloc w1 (.cells #[.bool b1, .slice A1 n1 c1] 25))
  have kx := Bx.new w1 w1.heap.size rfl (.bool b1) (.slice A1 n1 c1)
  have B0 := B0.trans ((below_alloc w1 (.cells #[.bool b1, .slice A1 n1 c1] 25)).mono B0.size)
  have kx0 := kx.1
  have kx1 := kx.2
  go_wp2
  go_ret2
  exact ⟨rfl, B0⟩
set_option maxRecDepth 20000 in
set_option maxHeartbeats 1000000 in
theorem rismall_x {w : World} {b : Bool} {A : Option Addr} {n c k : Nat} {z : Int} (h : Iv w (.agg #[.bool b, .slice A n c]) z k) (hk : k ≤ 900) (hz : z.natAbs < 18446744073709551616) (r : Int) (q : Bool) (hr0 : (-9223372036854775808 ≤ z ∧ z ≤ 9223372036854775807 ∧ r = z ∧ q = true) ∨ (¬ (-9223372036854775808 ≤ z ∧ z ≤ 9223372036854775807) ∧ r = 0 ∧ q = false)) : Calls Tryz.prog 27 #[.agg #[.bool b, .slice A n c]] w (SmallEnd r q w) := by
  have HR := Lib.hid hr0
  clear hr0
  have B0 := below_a1 w (.cells #[.bool b, .slice A n c] 25)
  have h := h.below B0
  have ka := (Bx.new w (w.heap.size) (by simp) (.bool b) (.slice A n c))
  go_enter Tryz.func27, Tryz.ntmps27
  have ka0 := ka.1
  have ka1 := ka.2
  go_wp2_with fail
  refine (rnorm_i h (by omega)).mono ?_
  clear ka0 ka1
  rintro e w1 ⟨v1, rfl, z1, bb⟩
  have h := h.below bb
  have ka := ka.below bb
  have B0 := B0.trans (bb.mono B0.size)
  clear bb
  obtain ⟨b1, A1, n1, c1, rfl, z1⟩ := z1.cells
  obtain ⟨m, zp, hz', h0⟩ := z1.parts
  clear z1
  have hm : z.natAbs = m := by rw [hz']; exact sgn_abs b1 m
  obtain ⟨l, hr, hn, hv, hl⟩ := zp
  have hl2 : l.length ≤ 2 := hn.len_le (by rw [hv, ← hm]; exact Nat.lt_of_lt_of_le hz (by decide))
  have hr := hr.below (below_alloc w1 (.cells #[.bool b1, .slice A1 n1 c1] 25))
  have hln := hr.addr
  obtain ⟨A9, n9, c9, e9, Hn, hlc, hcc, HL, hA⟩ := hr.open_
  simp only [Value.slice.injEq] at e9
  obtain ⟨rfl, rfl, rfl⟩ := e9
  have hn2 : n1 ≤ 2 := by omega
  have hmb : m < 18446744073709551616 := by omega
  have HV := Lib.hid hv
  have HZ := Lib.hid hz'
  have H0 := Lib.hid h0
  clear hv hn hl hl2 hln hm hz hz' h0 hr
  have kx := Bx.new w1 w1.heap.size rfl (.bool b1) (.slice A1 n1 c1)
  have B0 := B0.trans ((below_alloc w1 (.cells #[.bool b1, .slice A1 n1 c1] 25)).mono B0.size)
  have kx0 := kx.1
  have kx1 := kx.2
  go_wp2
  go_loop [5, 6] (fun x i => ∃ k : Nat, k ≤ n1 ∧ i = .int .i64 ((k : Int) - 1) ∧ ∃ s : Nat, x = .int .u64 s ∧ Hid (s = Num.val (l.drop k))) (fun _ i => (intOf i + 1).toNat)
  case atStart => exact ⟨n1, Nat.le_refl _, rfl, 0, rfl, by show 0 = _; rw [List.drop_of_length_le (by have := Hn.out; omega)]; rfl⟩
  case round =>
    obtain ⟨k, hk, rfl, s, rfl, Hs⟩ := hrel
    by_cases h0 : k = 0
    · have hk0 : ¬ 0 ≤ (k : Int) - 1 := by omega
      have hs : s = m := by rw [Hs.out, h0, List.drop_zero, HV.out]
      subst hs
      clear h0
      have BE := Lib.hid B0
      clear B0
      have hz0 := HZ.out
      rcases HR.out with ⟨h1, h2, rfl, rfl⟩ | ⟨h1, rfl, rfl⟩
      · cases b1
        · have hm : s ≤ 9223372036854775807 := by rw [sgn_false] at hz0; omega
          have Hr : Hid (r = (s : Int)) := hz0
          clear HR HZ H0 hz0 h1 h2
          go_wp2
          go_ret2
          rw [Hr.out]
          exact ⟨rfl, BE.out⟩
        · have hs1 : 0 < s := by rcases Nat.eq_zero_or_pos s with h | h; exact absurd (H0.out h) (by simp); exact h
          have hm : s ≤ 9223372036854775808 := by rw [sgn_true] at hz0; omega
          have Hr : Hid (r = -(s : Int)) := hz0
          clear HR HZ H0 hz0 h1 h2
          go_wp2
          go_ret2
          have er : r = -((s : Int) - 1) - 1 := by rw [Hr.out]; omega
          rw [er]
          exact ⟨rfl, BE.out⟩
      · cases b1
        · have hm : 9223372036854775807 < s := by rw [sgn_false] at hz0; omega
          clear HR HZ H0 hz0 h1
          go_wp2
          go_ret2
          exact ⟨rfl, BE.out⟩
        · have hs1 : 0 < s := by rcases Nat.eq_zero_or_pos s with h | h; exact absurd (H0.out h) (by simp); exact h
          have hm : 9223372036854775808 < s := by rw [sgn_true] at hz0; omega
          clear HR HZ H0 hz0 h1
          go_wp2
          go_ret2
          exact ⟨rfl, BE.out⟩
    · obtain ⟨k, rfl⟩ : ∃ j, k = j + 1 := ⟨k - 1, by omega⟩
      have hk0 : 0 ≤ ((k + 1 : Nat) : Int) - 1 := by omega
      have hkt : (((k + 1 : Nat) : Int) - 1).toNat = k := by omega
      have hkl : ((k + 1 : Nat) : Int) - 1 < (n1 : Int) := by omega
      obtain ⟨y, hy⟩ : ∃ y, l[k]? = some y := ⟨_, List.getElem?_eq_getElem (by have := Hn.out; omega)⟩
      have hyb : y < 4294967296 := HL.out.at hy
      obtain ⟨g, off, rfl, _, hc⟩ := hA (by have := Hn.out; omega)
      have hcy := hc _ _ hy
      have hd := drop_cons hy
      have Hd : Hid (Num.val (l.drop k) = s * 4294967296 + y) := by show _ = _; rw [hd, Num.val_cons, Hs.out, Num.K_eq]; omega
      have hsb : s < 4294967296 := by
        rw [Hs.out]
        have h1 := Num.val_lt (l.drop (k + 1)) (HL.out.drop _)
        have h2 : (l.drop (k + 1)).length ≤ 1 := by rw [List.length_drop]; have := Hn.out; omega
        exact Nat.lt_of_lt_of_le h1 (Nat.le_trans (Nat.pow_le_pow_right Num.K_pos h2) (by decide))
      clear hc hy hd h0
      go_wp2
      go_round
      case rel => exact ⟨k, by omega, by go_num, s * 4294967296 + y, by go_num, Hd.out.symm⟩
      case measure => simp [intOf] <;> omega
theorem rismall_yes {w : World} {v : Value} {z : Int} {k : Nat} (h : Iv w v z k) (hk : k ≤ 900) (h1 : -9223372036854775808 ≤ z) (h2 : z ≤ 9223372036854775807) : Calls Tryz.prog 27 #[v] w (SmallEnd z true w) := by
  have h' := h
  obtain ⟨b, A, n, d, m, rfl, _⟩ := h'
  exact rismall_x h hk (by omega) z true (.inl ⟨h1, h2, rfl, rfl⟩)
theorem rismall_no {w : World} {v : Value} {z : Int} {k : Nat} (h : Iv w v z k) (hk : k ≤ 900) (h1 : z < -9223372036854775808 ∨ 9223372036854775807 < z) : Calls Tryz.prog 27 #[v] w (SmallEnd 0 false w) := by
  have h' := h
  obtain ⟨b, A, n, d, m, rfl, _⟩ := h'
  rcases Nat.lt_or_ge z.natAbs 18446744073709551616 with h2 | h2
  · exact rismall_x h hk h2 0 false (.inr ⟨by omega, rfl, rfl⟩)
  · exact rismall_big h hk h2
end Go.Proofs.YtohlilgnognmgaaGreatDoor
/-
  The walks of integer.Parse.
-/
namespace Go.Proofs.YtohlilgnognmgaaGreatDoor
open Go.RowKit
attribute [local go_sem ↓] Go.wp_at_zero Go.wp_at_succ
set_option linter.unusedVariables false

def zval (neg : Bool) (d : List UInt8) : Int := sgn neg (decVal d)
/-- A string that is no integer: the error, and the zero value. -/
def PErr (code : Int) (w : World) (e : Ending) (w' : World) : Prop := e = .returned (.tuple #[.agg #[.bool false, .slice none 0 0], .int .i64 code]) ∧ Below w.heap.size w w'
def PInt (z : Int) (w : World) (e : Ending) (w' : World) : Prop := ∃ v, e = .returned (.tuple #[v, .int .i64 0]) ∧ Iz w' v z 200 ∧ Below w.heap.size w w'
/-- The string without its minus sign. -/
def digs (s : ByteArray) : ByteArray := ⟨(Lib.trimPrefix s.data.toList [45]).toArray⟩
def isNeg (s : ByteArray) : Bool := Lib.hasPrefix s.data.toList [45]
theorem cut_i (s : ByteArray) (w : World) (d : ByteArray) (b : Bool) (hd : d = digs s) (hb : b = isNeg s) : Calls Tryz.prog 33 #[.string s, .string ⟨#[45]⟩] w fun e w' => e = .returned (.tuple #[.string d, .bool b]) ∧ w = w' := by
  subst hd hb
  exact (Tryz.strings_CutPrefix s ⟨#[45]⟩ w).mono fun _ _ ⟨h, e⟩ => ⟨h, e.symm⟩
end Go.Proofs.YtohlilgnognmgaaGreatDoor
/-
  The walk of garmentref02.Parse.
-/
namespace Go.Proofs.YtohlilgnognmgaaGreatDoor
open Go.RowKit
attribute [local go_sem ↓] Go.wp_at_zero Go.wp_at_succ
set_option linter.unusedVariables false

theorem byteList (s : ByteArray) : s.toList = s.data.toList := ByteArray.toList_eq s
theorem byteList_nil {s : ByteArray} (h : s.data.toList.length = 0) : s.toList = [] := by rw [byteList]; exact List.eq_nil_of_length_eq_zero h
theorem nonempty_toList {s : ByteArray} (h : 0 < s.size) : s.toList.isEmpty = false := by
  rw [byteList]
  cases e : s.data.toList with
  | nil => have : s.data.toList.length = s.size := by simp
           rw [e] at this; simp at this; omega
  | cons => rfl
end Go.Proofs.YtohlilgnognmgaaGreatDoor
/-
  Both Parses at any string of at most 1000 bytes: the same error, or the same integer.
-/
namespace Go.Proofs.YtohlilgnognmgaaGreatDoor
open Go.RowKit
set_option linter.unusedVariables false

theorem head_cons (s : ByteArray) (h : 0 < s.size) : ∃ tl, s.data.toList = s[0] :: tl := by
  have h1 := byte_at s 0 h
  cases e : s.data.toList with
  | nil => rw [e] at h1; simp at h1
  | cons x tl =>
    rw [e] at h1
    simp only [List.getElem?_cons_zero, Option.some.injEq] at h1
    exact ⟨tl, by rw [h1]⟩
theorem neg_p (s : ByteArray) (h : 0 < s.size) (hc : (s[0].toNat : Int) ≠ 45) : s = digs s ∧ false = isNeg s := by
  obtain ⟨tl, e⟩ := head_cons s h
  have hb : isNeg s = false := by
    unfold isNeg Lib.hasPrefix
    rw [e]
    simp only [List.isPrefixOf, Bool.and_true]
    rw [beq_eq_false_iff_ne]
    intro h2
    rw [← h2] at hc
    exact hc rfl
  refine ⟨bytes_ext ?_, hb.symm⟩
  unfold digs Lib.trimPrefix
  unfold isNeg at hb
  rw [hb]
  rfl
theorem neg_n (s : ByteArray) (h : 0 < s.size) (hc : (s[0].toNat : Int) = 45) : s.extract 1 s.size = digs s ∧ true = isNeg s := by
  obtain ⟨tl, e⟩ := head_cons s h
  have hb : isNeg s = true := by
    unfold isNeg Lib.hasPrefix
    rw [e]
    simp only [List.isPrefixOf, Bool.and_true]
    rw [beq_iff_eq]
    exact UInt8.toNat_inj.1 (by show 45 = s[0].toNat; omega)
  refine ⟨bytes_ext ?_, hb.symm⟩
  unfold digs Lib.trimPrefix
  unfold isNeg at hb
  rw [hb, Lib.extract_to_end]
  rfl
theorem neg_e (s : ByteArray) (h : s.size = 0) : s = digs s ∧ false = isNeg s := by
  have e : s.data.toList = [] := List.eq_nil_of_length_eq_zero (by simpa using h)
  refine ⟨bytes_ext ?_, ?_⟩
  · unfold digs Lib.trimPrefix Lib.hasPrefix
    rw [e]
    rfl
  · unfold isNeg Lib.hasPrefix
    rw [e]
    rfl
end Go.Proofs.YtohlilgnognmgaaGreatDoor
