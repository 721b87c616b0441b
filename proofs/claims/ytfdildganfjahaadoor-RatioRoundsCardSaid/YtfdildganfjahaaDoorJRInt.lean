import Derived.Test.YtfdildganfjahaaDoorJInt
import Derived.Test.YtfdildganfjahaaDoorJRef
import Derived.Deep.DeepCutAuto
import Derived.Deep.RegionWith
import Derived.Laws.BitsAllLaws
import Derived.Test.YtfdildganfjahaaDoorJText
import Derived.Test.YtfdildganfjahaaDoorShelf
/-
  The walks of garmentref02.make1, Norm, Neg, Add, Sub, Mul, Of and Short.
-/
namespace Go.Proofs.YtfdildganfjahaaDoor
open Go.RowKit
attribute [local go_sem ↓] Go.wp_at_zero Go.wp_at_succ
set_option linter.unusedVariables false

theorem sgn_len {w : World} {A : Option Addr} {n c m k : Nat} (h : Nz w (.slice A n c) m k) : Iz w (.agg #[.bool (decide (0 < n)), .slice A n c]) (sgn true m) k := by
  have := Iz.mk true h _ rfl
  simpa using this
theorem rof_z' {w : World} (z : Int) (n : Nat) (hz : z = (n : Int)) (hn : n < 18446744073709551616) : Calls Tryd.prog 29 #[.int .u64 z] w (NEnd n 2 w) := by
  subst hz
  exact rof_n n hn
set_option maxRecDepth 20000 in
set_option maxHeartbeats 1000000 in
theorem riof_p (n : Int) (h : 0 ≤ n) (h' : n < 9223372036854775808) (w : World) : Calls Tryd.prog 28 #[.int .i64 n] w (IEnd n 2 w) := by
  have B0 := below_a1 w (.cells #[.bool false, .slice none 0 0] 25)
  have kr := (Rx.new w (w.heap.size) (by simp))
  go_enter Tryd.func28, Tryd.ntmps28
  have kr0 := kr.1
  have kr1 := kr.2.1
  have kr2 := kr.2.2.1
  have kr3 := kr.2.2.2
  go_wp2_with fail
  refine (rof_z' _ n.natAbs ?_ ?_).mono ?_
  · first | omega | (rw [IntKind.wrap_u64]; unfold wrap64; omega) | (simp only [IntKind.wrap_u64]; omega)
  · omega
  clear kr0 kr1 kr2 kr3
  rintro e w1 ⟨v1, rfl, z1, bb⟩
  have kr := kr.below bb
  have B0 := B0.trans (bb.mono B0.size)
  clear bb
  obtain ⟨A2, n2, c2, rfl, _, _⟩ := z1.nm.form
  have zr : Iz w1 (.agg #[.bool false, .slice A2 n2 c2]) n 2 := ⟨_, _, _, _, n.natAbs, rfl, z1, by simp [sgn]; omega, fun e => by first | rfl | omega⟩
  have kr0 := kr.1
  have kr1 := kr.2.1
  have kr2 := kr.2.2.1
  have kr3 := kr.2.2.2
  go_wp2
  refine bodyPost_ret (v := .agg #[.bool false, .slice A2 n2 c2]) (by simp [results, Tryd.results28, go_sem, kr0, kr1]) rfl ⟨_, rfl, zr.ret kr _ _, below_ret B0 (by omega) _ _⟩
set_option maxRecDepth 20000 in
set_option maxHeartbeats 1000000 in
theorem riof_m (n : Int) (h : n < 0) (h' : -9223372036854775808 ≤ n) (w : World) : Calls Tryd.prog 28 #[.int .i64 n] w (IEnd n 2 w) := by
  have B0 := below_a1 w (.cells #[.bool false, .slice none 0 0] 25)
  have kr := (Rx.new w (w.heap.size) (by simp))
  go_enter Tryd.func28, Tryd.ntmps28
  have kr0 := kr.1
  have kr1 := kr.2.1
  have kr2 := kr.2.2.1
  have kr3 := kr.2.2.2
  go_wp2_with fail
  refine (rof_z' _ n.natAbs ?_ ?_).mono ?_
  · first | omega | (rw [IntKind.wrap_u64]; unfold wrap64; omega) | (simp only [IntKind.wrap_u64]; omega)
  · omega
  clear kr0 kr1 kr2 kr3
  rintro e w1 ⟨v1, rfl, z1, bb⟩
  have kr := kr.below bb
  have B0 := B0.trans (bb.mono B0.size)
  clear bb
  obtain ⟨A2, n2, c2, rfl, _, _⟩ := z1.nm.form
  have zr : Iz w1 (.agg #[.bool true, .slice A2 n2 c2]) n 2 := ⟨_, _, _, _, n.natAbs, rfl, z1, by simp [sgn]; omega, fun e => by first | rfl | omega⟩
  have kr0 := kr.1
  have kr1 := kr.2.1
  have kr2 := kr.2.2.1
  have kr3 := kr.2.2.2
  go_wp2
  refine bodyPost_ret (v := .agg #[.bool true, .slice A2 n2 c2]) (by simp [results, Tryd.results28, go_sem, kr0, kr1]) rfl ⟨_, rfl, zr.ret kr _ _, below_ret B0 (by omega) _ _⟩
theorem riof_i (n : Int) (h : -9223372036854775808 ≤ n) (h' : n < 9223372036854775808) (w : World) : Calls Tryd.prog 28 #[.int .i64 n] w (IEnd n 2 w) := by
  rcases Int.lt_or_le n 0 with h0 | h0
  · exact riof_m n h0 h w
  · exact riof_p n h0 h' w
def BoolEnd (b : Bool) (w : World) (e : Ending) (w' : World) : Prop := e = .returned (.bool b) ∧ Below w.heap.size w w'
end Go.Proofs.YtfdildganfjahaaDoor
/-
  The walk of garmentref02.Cmp.
-/
namespace Go.Proofs.YtfdildganfjahaaDoor
open Go.RowKit
attribute [local go_sem ↓] Go.wp_at_zero Go.wp_at_succ
set_option linter.unusedVariables false

end Go.Proofs.YtfdildganfjahaaDoor
/-
  The walk of garmentref02.DivMod.
-/
namespace Go.Proofs.YtfdildganfjahaaDoor
open Go.RowKit
attribute [local go_sem ↓] Go.wp_at_zero Go.wp_at_succ
set_option linter.unusedVariables false

theorem div_m' (c : Bool) (m m' : Nat) (h : 0 < m') (h' : 0 < m % m') : sgn (!(true == c)) (m / m' + 1) = sgn true m / sgn c m' ∧ sgn false (m' - m % m') = sgn true m % sgn c m' := by
  rcases div_m c m m' h with e | e
  · exact ⟨e.1, e.2 h'⟩
  · omega
/-- Quotient and remainder, or the zero values. -/
def DEnd (z y : Int) (k j : Nat) (w : World) (e : Ending) (w' : World) : Prop := if y = 0 then ID0End w e w' else IDEnd (z / y) (z % y) k j w e w'
theorem DEnd.zero {z y : Int} {k j : Nat} {w : World} {e : Ending} {w' : World} (hy : y = 0) (h : ID0End w e w') : DEnd z y k j w e w' := by
  unfold DEnd; rw [if_pos hy]; exact h
theorem DEnd.some {z y q r : Int} {k j : Nat} {w : World} {e : Ending} {w' : World} (hy : y ≠ 0) (h : IDEnd q r k j w e w') (hq : q = z / y) (hr : r = z % y) : DEnd z y k j w e w' := by
  unfold DEnd; rw [if_neg hy, ← hq, ← hr]; exact h
end Go.Proofs.YtfdildganfjahaaDoor
/-
  The walk of integer.Small.
-/
namespace Go.Proofs.YtfdildganfjahaaDoor
open Go.RowKit
attribute [local go_sem ↓] Go.wp_at_zero Go.wp_at_succ
set_option linter.unusedVariables false

theorem or_hi (s y : Nat) (hs : s < 4294967296) (hy : y < 4294967296) : bits .or .i64 (s : Int) (wrap64 ((y : Int) * 4294967296)) = wrap64 ((y * 4294967296 + s : Nat) : Int) := by
  have e1 : (BitVec.ofInt 64 (wrap64 ((y : Int) * 4294967296))).toNat = y * 4294967296 := by
    rw [BitVec.toNat_ofInt]
    unfold wrap64
    omega
  show IntKind.i64.wrap ((BitVec.ofInt 64 (s : Int) ||| BitVec.ofInt 64 (wrap64 ((y : Int) * 4294967296))).toNat : Int) = _
  rw [BitVec.toNat_or, ofInt_u64 s (by omega), e1, Nat.or_comm, nat_join 32 (y * 4294967296) s (by omega) (by omega)]
  rw [IntKind.wrap_i64]
  unfold wrap64
  omega
theorem or_lo (y : Nat) (hy : y < 4294967296) : bits .or .i64 0 (y : Int) = (y : Int) := by
  show IntKind.i64.wrap ((BitVec.ofInt 64 (0 : Int) ||| BitVec.ofInt 64 (y : Int)).toNat : Int) = _
  rw [BitVec.toNat_or, ofInt_u64 y (by omega)]
  simp
  rw [IntKind.wrap_i64]
  omega
theorem take_one (l : List Nat) (x : Nat) (h : l[0]? = some x) : Num.val (l.take 1) = x := by
  have := val_take_succ l 0 x h
  simpa [Num.val] using this
theorem take_two (l : List Nat) (x y : Nat) (h : l[0]? = some x) (h' : l[1]? = some y) : y * 4294967296 + x = Num.val (l.take 2) := by
  have h1 := val_take_succ l 1 y h'
  rw [take_one l x h, Nat.pow_one, Num.K_eq] at h1
  rw [show 2 = 1 + 1 from rfl, h1]
  omega
theorem wrap_id (m : Int) (h1 : -9223372036854775808 ≤ m) (h2 : m < 9223372036854775808) : wrap64 m = m := by unfold wrap64; omega
theorem neg_wrap (m : Nat) (h : m ≤ 9223372036854775808) : wrap64 (-(wrap64 (m : Int))) = -(m : Int) := by
  rcases Nat.lt_or_ge m 9223372036854775808 with h1 | h1
  · rw [wrap_id (m : Int) (by omega) (by omega), wrap_id (-(m : Int)) (by omega) (by omega)]
  · have e : (m : Int) = 9223372036854775808 := by omega
    have e2 : wrap64 (9223372036854775808 : Int) = -9223372036854775808 := by unfold wrap64; omega
    have e3 : wrap64 (-(-9223372036854775808 : Int)) = -9223372036854775808 := by unfold wrap64; omega
    rw [e, e2, e3]
def SmallEnd (n : Int) (b : Bool) (w : World) (e : Ending) (w' : World) : Prop := e = .returned (.tuple #[.int .i64 n, .bool b]) ∧ Below w.heap.size w w'
end Go.Proofs.YtfdildganfjahaaDoor
/-
  The walks of garmentref02.Text and Small.
-/
namespace Go.Proofs.YtfdildganfjahaaDoor
open Go.RowKit
attribute [local go_sem ↓] Go.wp_at_zero Go.wp_at_succ
set_option linter.unusedVariables false

theorem neg_of {z : Int} {b : Bool} {m : Nat} (hz : z = sgn b m) (e : b = true) (h0 : m = 0 → b = false) : z < 0 := by
  subst e
  have : m ≠ 0 := fun e => absurd (h0 e) (by simp)
  rw [hz, sgn_true]
  omega
end Go.Proofs.YtfdildganfjahaaDoor
/-
  The walks of integer.Parse.
-/
namespace Go.Proofs.YtfdildganfjahaaDoor
open Go.RowKit
attribute [local go_sem ↓] Go.wp_at_zero Go.wp_at_succ
set_option linter.unusedVariables false

def zval (neg : Bool) (d : List UInt8) : Int := sgn neg (decVal d)
/-- A string that is no integer: the error, and the zero value. -/
def PErr (code : Int) (w : World) (e : Ending) (w' : World) : Prop := e = .returned (.tuple #[.agg #[.bool false, .slice none 0 0], .int .i64 code]) ∧ Below w.heap.size w w'
def PInt (z : Int) (w : World) (e : Ending) (w' : World) : Prop := ∃ v, e = .returned (.tuple #[v, .int .i64 0]) ∧ Iz w' v z 200 ∧ Below w.heap.size w w'
/-- The string without its minus sign. -/
def digs (s : ByteArray) : ByteArray := ⟨(Lib.trimPrefix s.data.toList [45]).toArray⟩
def isNeg (s : ByteArray) : Bool := Lib.hasPrefix s.data.toList [45]
theorem cut_i (s : ByteArray) (w : World) (d : ByteArray) (b : Bool) (hd : d = digs s) (hb : b = isNeg s) : Calls Tryd.prog 76 #[.string s, .string ⟨#[45]⟩] w fun e w' => e = .returned (.tuple #[.string d, .bool b]) ∧ w = w' := by
  subst hd hb
  exact (Tryd.strings_CutPrefix s ⟨#[45]⟩ w).mono fun _ _ ⟨h, e⟩ => ⟨h, e.symm⟩
set_option maxRecDepth 20000 in
set_option maxHeartbeats 1000000 in
theorem iparse_long (s d : ByteArray) (b : Bool) (hd : d = digs s) (hb : b = isNeg s) (w : World) (h : 200 < d.size) (hs : d.size ≤ 9223372036854775807) : Calls Tryd.prog 53 #[.string s] w (PErr 5 w) := by
  have Hd := Lib.hid hd
  have Hb := Lib.hid hb
  clear hd hb
  have B0 := below_a1 w (.cells #[.bool false, .slice none 0 0] 25)
  have kr := (Rx.new w (w.heap.size) (by simp))
  go_enter Tryd.func53, Tryd.ntmps53
  have kr0 := kr.1
  have kr1 := kr.2.1
  have kr2 := kr.2.2.1
  have kr3 := kr.2.2.2
  go_wp2_with fail
  refine (cut_i s _ d b Hd.out Hb.out).mono ?_
  clear kr0 kr1 kr2 kr3
  rintro e w' ⟨rfl, rfl⟩
  have kr0 := kr.1
  have kr1 := kr.2.1
  have kr2 := kr.2.2.1
  have kr3 := kr.2.2.2
  go_wp2_with fail
  refine (parse_long' d _ hs h).mono ?_
  clear kr0 kr1 kr2 kr3
  rintro e w' ⟨rfl, rfl⟩
  have kr0 := kr.1
  have kr1 := kr.2.1
  have kr2 := kr.2.2.1
  have kr3 := kr.2.2.2
  go_wp2
  refine bodyPost_ret (v := .tuple #[.agg #[.bool false, .slice none 0 0], .int .i64 5]) (by simp [results, Tryd.results53, go_sem, kr0, kr1]) rfl ⟨rfl, by first | exact B0 | exact below_ret B0 (by omega) _ _⟩
set_option maxRecDepth 20000 in
set_option maxHeartbeats 1000000 in
theorem iparse_bad (s d : ByteArray) (b : Bool) (hd : d = digs s) (hb : b = isNeg s) (w : World) (h : d.size ≤ 200) (hn : isNum d.data.toList = false) : Calls Tryd.prog 53 #[.string s] w (PErr 2 w) := by
  have Hn := Lib.hid hn
  clear hn
  have Hd := Lib.hid hd
  have Hb := Lib.hid hb
  clear hd hb
  have B0 := below_a1 w (.cells #[.bool false, .slice none 0 0] 25)
  have kr := (Rx.new w (w.heap.size) (by simp))
  go_enter Tryd.func53, Tryd.ntmps53
  have kr0 := kr.1
  have kr1 := kr.2.1
  have kr2 := kr.2.2.1
  have kr3 := kr.2.2.2
  go_wp2_with fail
  refine (cut_i s _ d b Hd.out Hb.out).mono ?_
  clear kr0 kr1 kr2 kr3
  rintro e w' ⟨rfl, rfl⟩
  have kr0 := kr.1
  have kr1 := kr.2.1
  have kr2 := kr.2.2.1
  have kr3 := kr.2.2.2
  go_wp2_with fail
  refine (parse_bad d _ h Hn.out).mono ?_
  clear kr0 kr1 kr2 kr3
  rintro e w' ⟨rfl, rfl⟩
  have kr0 := kr.1
  have kr1 := kr.2.1
  have kr2 := kr.2.2.1
  have kr3 := kr.2.2.2
  go_wp2
  refine bodyPost_ret (v := .tuple #[.agg #[.bool false, .slice none 0 0], .int .i64 2]) (by simp [results, Tryd.results53, go_sem, kr0, kr1]) rfl ⟨rfl, by first | exact B0 | exact below_ret B0 (by omega) _ _⟩
set_option maxRecDepth 20000 in
set_option maxHeartbeats 1000000 in
theorem iparse_p (s d : ByteArray) (hd : d = digs s) (hb : false = isNeg s) (w : World) (h : d.size ≤ 200) (hn : isNum d.data.toList = true)  : Calls Tryd.prog 53 #[.string s] w (PInt (sgn false (decVal d.data.toList)) w) := by
  have Hn := Lib.hid hn
  clear hn
  have Hd := Lib.hid hd
  have Hb := Lib.hid hb
  clear hd hb
  have B0 := below_a1 w (.cells #[.bool false, .slice none 0 0] 25)
  have kr := (Rx.new w (w.heap.size) (by simp))
  go_enter Tryd.func53, Tryd.ntmps53
  have kr0 := kr.1
  have kr1 := kr.2.1
  have kr2 := kr.2.2.1
  have kr3 := kr.2.2.2
  go_wp2_with fail
  refine (cut_i s _ d false Hd.out Hb.out).mono ?_
  clear kr0 kr1 kr2 kr3
  rintro e w' ⟨rfl, rfl⟩
  have kr0 := kr.1
  have kr1 := kr.2.1
  have kr2 := kr.2.2.1
  have kr3 := kr.2.2.2
  go_wp2_with fail
  refine (parse_n d _ h Hn.out).mono ?_
  clear kr0 kr1 kr2 kr3
  rintro e w2 ⟨v1, rfl, z1, bb⟩
  have kr := kr.below bb
  have B0 := B0.trans (bb.mono B0.size)
  clear bb
  obtain ⟨A2, n2, c2, rfl, _, _⟩ := z1.nm.form
  have kr0 := kr.1
  have kr1 := kr.2.1
  have kr2 := kr.2.2.1
  have kr3 := kr.2.2.2
  go_wp2_with fail
  refine (signed_i false z1 _ rfl).mono ?_
  clear kr0 kr1 kr2 kr3
  rintro e w3 ⟨vr, rfl, zr, bb⟩
  have kr := kr.below bb
  have z1 := z1.below bb
  have B0 := B0.trans (bb.mono B0.size)
  clear bb
  obtain ⟨br, Ar, nr, cr, rfl, zr⟩ := zr.cells
  have kr0 := kr.1
  have kr1 := kr.2.1
  have kr2 := kr.2.2.1
  have kr3 := kr.2.2.2
  go_wp2
  refine bodyPost_ret (v := .tuple #[.agg #[.bool br, .slice Ar nr cr], .int .i64 0]) (by simp [results, Tryd.results53, go_sem, kr0, kr1]) rfl ⟨_, rfl, zr.ret kr _ _, below_ret B0 (by omega) _ _⟩
set_option maxRecDepth 20000 in
set_option maxHeartbeats 1000000 in
theorem iparse_m (s d : ByteArray) (hd : d = digs s) (hb : true = isNeg s) (w : World) (h : d.size ≤ 200) (hn : isNum d.data.toList = true) (h0 : 0 < decVal d.data.toList) : Calls Tryd.prog 53 #[.string s] w (PInt (sgn true (decVal d.data.toList)) w) := by
  have Hn := Lib.hid hn
  clear hn
  have H0 := Lib.hid h0
  clear h0
  have Hd := Lib.hid hd
  have Hb := Lib.hid hb
  clear hd hb
  have B0 := below_a1 w (.cells #[.bool false, .slice none 0 0] 25)
  have kr := (Rx.new w (w.heap.size) (by simp))
  go_enter Tryd.func53, Tryd.ntmps53
  have kr0 := kr.1
  have kr1 := kr.2.1
  have kr2 := kr.2.2.1
  have kr3 := kr.2.2.2
  go_wp2_with fail
  refine (cut_i s _ d true Hd.out Hb.out).mono ?_
  clear kr0 kr1 kr2 kr3
  rintro e w' ⟨rfl, rfl⟩
  have kr0 := kr.1
  have kr1 := kr.2.1
  have kr2 := kr.2.2.1
  have kr3 := kr.2.2.2
  go_wp2_with fail
  refine (parse_n d _ h Hn.out).mono ?_
  clear kr0 kr1 kr2 kr3
  rintro e w2 ⟨v1, rfl, z1, bb⟩
  have kr := kr.below bb
  have B0 := B0.trans (bb.mono B0.size)
  clear bb
  obtain ⟨A2, n2, c2, rfl, _, _⟩ := z1.nm.form
  have hn2 : 0 < n2 := by have h1 := z1.len0.1.1; have h2 := H0.out; omega
  have kr0 := kr.1
  have kr1 := kr.2.1
  have kr2 := kr.2.2.1
  have kr3 := kr.2.2.2
  go_wp2_with fail
  refine (signed_i true z1 _ rfl).mono ?_
  clear kr0 kr1 kr2 kr3
  rintro e w3 ⟨vr, rfl, zr, bb⟩
  have kr := kr.below bb
  have z1 := z1.below bb
  have B0 := B0.trans (bb.mono B0.size)
  clear bb
  obtain ⟨br, Ar, nr, cr, rfl, zr⟩ := zr.cells
  have kr0 := kr.1
  have kr1 := kr.2.1
  have kr2 := kr.2.2.1
  have kr3 := kr.2.2.2
  go_wp2
  refine bodyPost_ret (v := .tuple #[.agg #[.bool br, .slice Ar nr cr], .int .i64 0]) (by simp [results, Tryd.results53, go_sem, kr0, kr1]) rfl ⟨_, rfl, zr.ret kr _ _, below_ret B0 (by omega) _ _⟩
set_option maxRecDepth 20000 in
set_option maxHeartbeats 1000000 in
theorem iparse_z (s d : ByteArray) (hd : d = digs s) (hb : true = isNeg s) (w : World) (h : d.size ≤ 200) (hn : isNum d.data.toList = true) (h0 : decVal d.data.toList = 0) : Calls Tryd.prog 53 #[.string s] w (PErr 2 w) := by
  have Hn := Lib.hid hn
  clear hn
  have H0 := Lib.hid h0
  clear h0
  have Hd := Lib.hid hd
  have Hb := Lib.hid hb
  clear hd hb
  have B0 := below_a1 w (.cells #[.bool false, .slice none 0 0] 25)
  have kr := (Rx.new w (w.heap.size) (by simp))
  go_enter Tryd.func53, Tryd.ntmps53
  have kr0 := kr.1
  have kr1 := kr.2.1
  have kr2 := kr.2.2.1
  have kr3 := kr.2.2.2
  go_wp2_with fail
  refine (cut_i s _ d true Hd.out Hb.out).mono ?_
  clear kr0 kr1 kr2 kr3
  rintro e w' ⟨rfl, rfl⟩
  have kr0 := kr.1
  have kr1 := kr.2.1
  have kr2 := kr.2.2.1
  have kr3 := kr.2.2.2
  go_wp2_with fail
  refine (parse_n d _ h Hn.out).mono ?_
  clear kr0 kr1 kr2 kr3
  rintro e w2 ⟨v1, rfl, z1, bb⟩
  have kr := kr.below bb
  have B0 := B0.trans (bb.mono B0.size)
  clear bb
  obtain ⟨A2, n2, c2, rfl, _, _⟩ := z1.nm.form
  have hn2 : n2 = 0 := z1.len0.1.2 H0.out
  subst hn2
  have kr0 := kr.1
  have kr1 := kr.2.1
  have kr2 := kr.2.2.1
  have kr3 := kr.2.2.2
  go_wp2
  refine bodyPost_ret (v := .tuple #[.agg #[.bool false, .slice none 0 0], .int .i64 2]) (by simp [results, Tryd.results53, go_sem, kr0, kr1]) rfl ⟨rfl, by first | exact B0 | exact below_ret B0 (by omega) _ _⟩
end Go.Proofs.YtfdildganfjahaaDoor
/-
  The walk of garmentref02.Parse.
-/
namespace Go.Proofs.YtfdildganfjahaaDoor
open Go.RowKit
attribute [local go_sem ↓] Go.wp_at_zero Go.wp_at_succ
set_option linter.unusedVariables false

theorem byteList (s : ByteArray) : s.toList = s.data.toList := ByteArray.toList_eq s
theorem byteList_nil {s : ByteArray} (h : s.data.toList.length = 0) : s.toList = [] := by rw [byteList]; exact List.eq_nil_of_length_eq_zero h
theorem nonempty_toList {s : ByteArray} (h : 0 < s.size) : s.toList.isEmpty = false := by
  rw [byteList]
  cases e : s.data.toList with
  | nil => have : s.data.toList.length = s.size := by simp
           rw [e] at this; simp at this; omega
  | cons => rfl
end Go.Proofs.YtfdildganfjahaaDoor
/-
  Both Parses at any string of at most 1000 bytes: the same error, or the same integer.
-/
namespace Go.Proofs.YtfdildganfjahaaDoor
open Go.RowKit
set_option linter.unusedVariables false

theorem head_cons (s : ByteArray) (h : 0 < s.size) : ∃ tl, s.data.toList = s[0] :: tl := by
  have h1 := byte_at s 0 h
  cases e : s.data.toList with
  | nil => rw [e] at h1; simp at h1
  | cons x tl =>
    rw [e] at h1
    simp only [List.getElem?_cons_zero, Option.some.injEq] at h1
    exact ⟨tl, by rw [h1]⟩
theorem neg_p (s : ByteArray) (h : 0 < s.size) (hc : (s[0].toNat : Int) ≠ 45) : s = digs s ∧ false = isNeg s := by
  obtain ⟨tl, e⟩ := head_cons s h
  have hb : isNeg s = false := by
    unfold isNeg Lib.hasPrefix
    rw [e]
    simp only [List.isPrefixOf, Bool.and_true]
    rw [beq_eq_false_iff_ne]
    intro h2
    rw [← h2] at hc
    exact hc rfl
  refine ⟨bytes_ext ?_, hb.symm⟩
  unfold digs Lib.trimPrefix
  unfold isNeg at hb
  rw [hb]
  rfl
theorem neg_n (s : ByteArray) (h : 0 < s.size) (hc : (s[0].toNat : Int) = 45) : s.extract 1 s.size = digs s ∧ true = isNeg s := by
  obtain ⟨tl, e⟩ := head_cons s h
  have hb : isNeg s = true := by
    unfold isNeg Lib.hasPrefix
    rw [e]
    simp only [List.isPrefixOf, Bool.and_true]
    rw [beq_iff_eq]
    exact UInt8.toNat_inj.1 (by show 45 = s[0].toNat; omega)
  refine ⟨bytes_ext ?_, hb.symm⟩
  unfold digs Lib.trimPrefix
  unfold isNeg at hb
  rw [hb, Lib.extract_to_end]
  rfl
theorem neg_e (s : ByteArray) (h : s.size = 0) : s = digs s ∧ false = isNeg s := by
  have e : s.data.toList = [] := List.eq_nil_of_length_eq_zero (by simpa using h)
  refine ⟨bytes_ext ?_, ?_⟩
  · unfold digs Lib.trimPrefix Lib.hasPrefix
    rw [e]
    rfl
  · unfold isNeg Lib.hasPrefix
    rw [e]
    rfl
end Go.Proofs.YtfdildganfjahaaDoor
