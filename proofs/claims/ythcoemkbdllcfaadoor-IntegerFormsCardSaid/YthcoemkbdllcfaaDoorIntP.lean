/-
  The walks of integer.Parse.
-/
import Derived.Test.YthcoemkbdllcfaaDoorIntC
import Derived.Test.YthcoemkbdllcfaaDoorReadK
import Derived.Test.YthcoemkbdllcfaaDoorRefK
import Derived.Test.YthcoemkbdllcfaaDoorShelf
namespace Go.Proofs.YthcoemkbdllcfaaDoor
open Go.RowKit
attribute [local go_sem ↓] Go.wp_at_zero Go.wp_at_succ
set_option linter.unusedVariables false

def zval (neg : Bool) (d : List UInt8) : Int := sgn neg (decVal d)
/-- A string that is no integer: the error, and the zero value. -/
def PErr (code : Int) (w : World) (e : Ending) (w' : World) : Prop := e = .returned (.tuple #[.agg #[.bool false, .slice none 0 0], .int .i64 code]) ∧ Below w.heap.size w w'
def PInt (z : Int) (w : World) (e : Ending) (w' : World) : Prop := ∃ v, e = .returned (.tuple #[v, .int .i64 0]) ∧ Iz w' v z 200 ∧ Below w.heap.size w w'
/-- The string without its minus sign. -/
def digs (s : ByteArray) : ByteArray := ⟨(Lib.trimPrefix s.data.toList [45]).toArray⟩
def isNeg (s : ByteArray) : Bool := Lib.hasPrefix s.data.toList [45]
theorem cut_i (s : ByteArray) (w : World) (d : ByteArray) (b : Bool) (hd : d = digs s) (hb : b = isNeg s) : Calls Tryd.prog 57 #[.string s, .string ⟨#[45]⟩] w fun e w' => e = .returned (.tuple #[.string d, .bool b]) ∧ w = w' := by
  subst hd hb
  exact (Tryd.strings_CutPrefix s ⟨#[45]⟩ w).mono fun _ _ ⟨h, e⟩ => ⟨h, e.symm⟩
set_option maxRecDepth 20000 in
set_option maxHeartbeats 1000000 in
theorem iparse_long (s d : ByteArray) (b : Bool) (hd : d = digs s) (hb : b = isNeg s) (w : World) (h : 200 < d.size) (hs : d.size ≤ 9223372036854775807) : Calls Tryd.prog 30 #[.string s] w (PErr 5 w) := by
  have Hd := Lib.hid hd
  have Hb := Lib.hid hb
  clear hd hb
  have B0 := below_a1 w (.cells #[.bool false, .slice none 0 0] 25)
  have kr := (Rx.new w (w.heap.size) (by simp))
  go_enter Tryd.func30, Tryd.ntmps30
  have kr0 := kr.1
  have kr1 := kr.2.1
  have kr2 := kr.2.2.1
  have kr3 := kr.2.2.2
  go_wp2_with fail
  refine (cut_i s _ d b Hd.out Hb.out).mono ?_
  clear kr0 kr1 kr2 kr3
  rintro e w' ⟨rfl, rfl⟩
  have kr0 := kr.1
  have kr1 := kr.2.1
  have kr2 := kr.2.2.1
  have kr3 := kr.2.2.2
  go_wp2_with fail
  refine (parse_long' d _ hs h).mono ?_
  clear kr0 kr1 kr2 kr3
  rintro e w' ⟨rfl, rfl⟩
  have kr0 := kr.1
  have kr1 := kr.2.1
  have kr2 := kr.2.2.1
  have kr3 := kr.2.2.2
  go_wp2
  refine bodyPost_ret (v := .tuple #[.agg #[.bool false, .slice none 0 0], .int .i64 5]) (by simp [results, Tryd.results30, go_sem, kr0, kr1]) rfl ⟨rfl, by first | exact B0 | exact below_ret B0 (by omega) _ _⟩
set_option maxRecDepth 20000 in
set_option maxHeartbeats 1000000 in
theorem iparse_bad (s d : ByteArray) (b : Bool) (hd : d = digs s) (hb : b = isNeg s) (w : World) (h : d.size ≤ 200) (hn : isNum d.data.toList = false) : Calls Tryd.prog 30 #[.string s] w (PErr 2 w) := by
  have Hn := Lib.hid hn
  clear hn
  have Hd := Lib.hid hd
  have Hb := Lib.hid hb
  clear hd hb
  have B0 := below_a1 w (.cells #[.bool false, .slice none 0 0] 25)
  have kr := (Rx.new w (w.heap.size) (by simp))
  go_enter Tryd.func30, Tryd.ntmps30
  have kr0 := kr.1
  have kr1 := kr.2.1
  have kr2 := kr.2.2.1
  have kr3 := kr.2.2.2
  go_wp2_with fail
  refine (cut_i s _ d b Hd.out Hb.out).mono ?_
  clear kr0 kr1 kr2 kr3
  rintro e w' ⟨rfl, rfl⟩
  have kr0 := kr.1
  have kr1 := kr.2.1
  have kr2 := kr.2.2.1
  have kr3 := kr.2.2.2
  go_wp2_with fail
  refine (parse_bad d _ h Hn.out).mono ?_
  clear kr0 kr1 kr2 kr3
  rintro e w' ⟨rfl, rfl⟩
  have kr0 := kr.1
  have kr1 := kr.2.1
  have kr2 := kr.2.2.1
  have kr3 := kr.2.2.2
  go_wp2
  refine bodyPost_ret (v := .tuple #[.agg #[.bool false, .slice none 0 0], .int .i64 2]) (by simp [results, Tryd.results30, go_sem, kr0, kr1]) rfl ⟨rfl, by first | exact B0 | exact below_ret B0 (by omega) _ _⟩
set_option maxRecDepth 20000 in
set_option maxHeartbeats 1000000 in
theorem iparse_p (s d : ByteArray) (hd : d = digs s) (hb : false = isNeg s) (w : World) (h : d.size ≤ 200) (hn : isNum d.data.toList = true)  : Calls Tryd.prog 30 #[.string s] w (PInt (sgn false (decVal d.data.toList)) w) := by
  have Hn := Lib.hid hn
  clear hn
  have Hd := Lib.hid hd
  have Hb := Lib.hid hb
  clear hd hb
  have B0 := below_a1 w (.cells #[.bool false, .slice none 0 0] 25)
  have kr := (Rx.new w (w.heap.size) (by simp))
  go_enter Tryd.func30, Tryd.ntmps30
  have kr0 := kr.1
  have kr1 := kr.2.1
  have kr2 := kr.2.2.1
  have kr3 := kr.2.2.2
  go_wp2_with fail
  refine (cut_i s _ d false Hd.out Hb.out).mono ?_
  clear kr0 kr1 kr2 kr3
  rintro e w' ⟨rfl, rfl⟩
  have kr0 := kr.1
  have kr1 := kr.2.1
  have kr2 := kr.2.2.1
  have kr3 := kr.2.2.2
  go_wp2_with fail
  refine (parse_n d _ h Hn.out).mono ?_
  clear kr0 kr1 kr2 kr3
  rintro e w2 ⟨v1, rfl, z1, bb⟩
  have kr := kr.below bb
  have B0 := B0.trans (bb.mono B0.size)
  clear bb
  obtain ⟨A2, n2, c2, rfl, _, _⟩ := z1.nm.form
  have kr0 := kr.1
  have kr1 := kr.2.1
  have kr2 := kr.2.2.1
  have kr3 := kr.2.2.2
  go_wp2_with fail
  refine (signed_i false z1 _ rfl).mono ?_
  clear kr0 kr1 kr2 kr3
  rintro e w3 ⟨vr, rfl, zr, bb⟩
  have kr := kr.below bb
  have z1 := z1.below bb
  have B0 := B0.trans (bb.mono B0.size)
  clear bb
  obtain ⟨br, Ar, nr, cr, rfl, zr⟩ := zr.cells
  have kr0 := kr.1
  have kr1 := kr.2.1
  have kr2 := kr.2.2.1
  have kr3 := kr.2.2.2
  go_wp2
  refine bodyPost_ret (v := .tuple #[.agg #[.bool br, .slice Ar nr cr], .int .i64 0]) (by simp [results, Tryd.results30, go_sem, kr0, kr1]) rfl ⟨_, rfl, zr.ret kr _ _, below_ret B0 (by omega) _ _⟩
set_option maxRecDepth 20000 in
set_option maxHeartbeats 1000000 in
theorem iparse_m (s d : ByteArray) (hd : d = digs s) (hb : true = isNeg s) (w : World) (h : d.size ≤ 200) (hn : isNum d.data.toList = true) (h0 : 0 < decVal d.data.toList) : Calls Tryd.prog 30 #[.string s] w (PInt (sgn true (decVal d.data.toList)) w) := by
  have Hn := Lib.hid hn
  clear hn
  have H0 := Lib.hid h0
  clear h0
  have Hd := Lib.hid hd
  have Hb := Lib.hid hb
  clear hd hb
  have B0 := below_a1 w (.cells #[.bool false, .slice none 0 0] 25)
  have kr := (Rx.new w (w.heap.size) (by simp))
  go_enter Tryd.func30, Tryd.ntmps30
  have kr0 := kr.1
  have kr1 := kr.2.1
  have kr2 := kr.2.2.1
  have kr3 := kr.2.2.2
  go_wp2_with fail
  refine (cut_i s _ d true Hd.out Hb.out).mono ?_
  clear kr0 kr1 kr2 kr3
  rintro e w' ⟨rfl, rfl⟩
  have kr0 := kr.1
  have kr1 := kr.2.1
  have kr2 := kr.2.2.1
  have kr3 := kr.2.2.2
  go_wp2_with fail
  refine (parse_n d _ h Hn.out).mono ?_
  clear kr0 kr1 kr2 kr3
  rintro e w2 ⟨v1, rfl, z1, bb⟩
  have kr := kr.below bb
  have B0 := B0.trans (bb.mono B0.size)
  clear bb
  obtain ⟨A2, n2, c2, rfl, _, _⟩ := z1.nm.form
  have hn2 : 0 < n2 := by have h1 := z1.len0.1.1; have h2 := H0.out; omega
  have kr0 := kr.1
  have kr1 := kr.2.1
  have kr2 := kr.2.2.1
  have kr3 := kr.2.2.2
  go_wp2_with fail
  refine (signed_i true z1 _ rfl).mono ?_
  clear kr0 kr1 kr2 kr3
  rintro e w3 ⟨vr, rfl, zr, bb⟩
  have kr := kr.below bb
  have z1 := z1.below bb
  have B0 := B0.trans (bb.mono B0.size)
  clear bb
  obtain ⟨br, Ar, nr, cr, rfl, zr⟩ := zr.cells
  have kr0 := kr.1
  have kr1 := kr.2.1
  have kr2 := kr.2.2.1
  have kr3 := kr.2.2.2
  go_wp2
  refine bodyPost_ret (v := .tuple #[.agg #[.bool br, .slice Ar nr cr], .int .i64 0]) (by simp [results, Tryd.results30, go_sem, kr0, kr1]) rfl ⟨_, rfl, zr.ret kr _ _, below_ret B0 (by omega) _ _⟩
set_option maxRecDepth 20000 in
set_option maxHeartbeats 1000000 in
theorem iparse_z (s d : ByteArray) (hd : d = digs s) (hb : true = isNeg s) (w : World) (h : d.size ≤ 200) (hn : isNum d.data.toList = true) (h0 : decVal d.data.toList = 0) : Calls Tryd.prog 30 #[.string s] w (PErr 2 w) := by
  have Hn := Lib.hid hn
  clear hn
  have H0 := Lib.hid h0
  clear h0
  have Hd := Lib.hid hd
  have Hb := Lib.hid hb
  clear hd hb
  have B0 := below_a1 w (.cells #[.bool false, .slice none 0 0] 25)
  have kr := (Rx.new w (w.heap.size) (by simp))
  go_enter Tryd.func30, Tryd.ntmps30
  have kr0 := kr.1
  have kr1 := kr.2.1
  have kr2 := kr.2.2.1
  have kr3 := kr.2.2.2
  go_wp2_with fail
  refine (cut_i s _ d true Hd.out Hb.out).mono ?_
  clear kr0 kr1 kr2 kr3
  rintro e w' ⟨rfl, rfl⟩
  have kr0 := kr.1
  have kr1 := kr.2.1
  have kr2 := kr.2.2.1
  have kr3 := kr.2.2.2
  go_wp2_with fail
  refine (parse_n d _ h Hn.out).mono ?_
  clear kr0 kr1 kr2 kr3
  rintro e w2 ⟨v1, rfl, z1, bb⟩
  have kr := kr.below bb
  have B0 := B0.trans (bb.mono B0.size)
  clear bb
  obtain ⟨A2, n2, c2, rfl, _, _⟩ := z1.nm.form
  have hn2 : n2 = 0 := z1.len0.1.2 H0.out
  subst hn2
  have kr0 := kr.1
  have kr1 := kr.2.1
  have kr2 := kr.2.2.1
  have kr3 := kr.2.2.2
  go_wp2
  refine bodyPost_ret (v := .tuple #[.agg #[.bool false, .slice none 0 0], .int .i64 2]) (by simp [results, Tryd.results30, go_sem, kr0, kr1]) rfl ⟨rfl, by first | exact B0 | exact below_ret B0 (by omega) _ _⟩
end Go.Proofs.YthcoemkbdllcfaaDoor
