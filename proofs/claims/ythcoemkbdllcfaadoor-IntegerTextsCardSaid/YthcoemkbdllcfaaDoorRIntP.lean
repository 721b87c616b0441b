/-
  The walk of garmentref02.Parse.
-/
import Derived.Test.YthcoemkbdllcfaaDoorIntP
import Derived.Test.YthcoemkbdllcfaaDoorRIntA
namespace Go.Proofs.YthcoemkbdllcfaaDoor
open Go.RowKit
attribute [local go_sem ↓] Go.wp_at_zero Go.wp_at_succ
set_option linter.unusedVariables false

theorem byteList (s : ByteArray) : s.toList = s.data.toList := ByteArray.toList_eq s
theorem byteList_nil {s : ByteArray} (h : s.data.toList.length = 0) : s.toList = [] := by rw [byteList]; exact List.eq_nil_of_length_eq_zero h
theorem nonempty_toList {s : ByteArray} (h : 0 < s.size) : s.toList.isEmpty = false := by
  rw [byteList]
  cases e : s.data.toList with
  | nil => have : s.data.toList.length = s.size := by simp
           rw [e] at this; simp at this; omega
  | cons => rfl
set_option maxRecDepth 20000 in
set_option maxHeartbeats 1000000 in
theorem riparse_bad_e (s : ByteArray) (w : World) (hsz : s.size ≤ 9223372036854775807) (hs0 : s.size = 0) (h : s.size ≤ 200) (hn : isNum s.data.toList = false) : Calls Tryd.prog 31 #[.string s] w (PErr 2 w) := by
  have Hn := Lib.hid hn
  clear hn
  have hs1 : s.toList = [] := byteList_nil (by simpa using hs0)
  have hs2 : s.toList.isEmpty = true := by rw [hs1]; rfl
  have B0 := below_a1 w (.cells #[.bool false, .slice none 0 0] 25)
  have kr := (Rx.new w (w.heap.size) (by simp))
  go_enter Tryd.func31, Tryd.ntmps31
  have kr0 := kr.1
  have kr1 := kr.2.1
  have kr2 := kr.2.2.1
  have kr3 := kr.2.2.2
  go_wp2_with fail
  refine (rparse_bad s _ h Hn.out).mono ?_
  clear kr0 kr1 kr2 kr3
  rintro e w' ⟨rfl, rfl⟩
  have kr0 := kr.1
  have kr1 := kr.2.1
  have kr2 := kr.2.2.1
  have kr3 := kr.2.2.2
  go_wp2
  refine bodyPost_ret (v := .tuple #[.agg #[.bool false, .slice none 0 0], .int .i64 2]) (by simp [results, Tryd.results31, go_sem, kr0, kr1]) rfl ⟨rfl, by first | exact B0 | exact below_ret B0 (by omega) _ _⟩
set_option maxRecDepth 20000 in
set_option maxHeartbeats 1000000 in
theorem riparse_long_n (s : ByteArray) (w : World) (hsz : s.size ≤ 9223372036854775807) (hs0 : 0 < s.size) (hc : (s[0].toNat : Int) = 45) (hs : (s.extract 1 s.size).size ≤ 1000000) (h : 200 < (s.extract 1 s.size).size) : Calls Tryd.prog 31 #[.string s] w (PErr 5 w) := by
  have hs2 : s.toList.isEmpty = false := nonempty_toList hs0
  have e2 : ((s[0].toNat : Int) == 45) = true := by simpa using hc
  have B0 := below_a1 w (.cells #[.bool false, .slice none 0 0] 25)
  have kr := (Rx.new w (w.heap.size) (by simp))
  go_enter Tryd.func31, Tryd.ntmps31
  have kr0 := kr.1
  have kr1 := kr.2.1
  have kr2 := kr.2.2.1
  have kr3 := kr.2.2.2
  go_wp2_with fail
  refine (rparse_long (s.extract 1 s.size) _ hs h).mono ?_
  clear kr0 kr1 kr2 kr3
  rintro e w' ⟨rfl, rfl⟩
  have kr0 := kr.1
  have kr1 := kr.2.1
  have kr2 := kr.2.2.1
  have kr3 := kr.2.2.2
  go_wp2
  refine bodyPost_ret (v := .tuple #[.agg #[.bool false, .slice none 0 0], .int .i64 5]) (by simp [results, Tryd.results31, go_sem, kr0, kr1]) rfl ⟨rfl, by first | exact B0 | exact below_ret B0 (by omega) _ _⟩
set_option maxRecDepth 20000 in
set_option maxHeartbeats 1000000 in
theorem riparse_bad_n (s : ByteArray) (w : World) (hsz : s.size ≤ 9223372036854775807) (hs0 : 0 < s.size) (hc : (s[0].toNat : Int) = 45) (h : (s.extract 1 s.size).size ≤ 200) (hn : isNum (s.extract 1 s.size).data.toList = false) : Calls Tryd.prog 31 #[.string s] w (PErr 2 w) := by
  have Hn := Lib.hid hn
  clear hn
  have hs2 : s.toList.isEmpty = false := nonempty_toList hs0
  have e2 : ((s[0].toNat : Int) == 45) = true := by simpa using hc
  have B0 := below_a1 w (.cells #[.bool false, .slice none 0 0] 25)
  have kr := (Rx.new w (w.heap.size) (by simp))
  go_enter Tryd.func31, Tryd.ntmps31
  have kr0 := kr.1
  have kr1 := kr.2.1
  have kr2 := kr.2.2.1
  have kr3 := kr.2.2.2
  go_wp2_with fail
  refine (rparse_bad (s.extract 1 s.size) _ h Hn.out).mono ?_
  clear kr0 kr1 kr2 kr3
  rintro e w' ⟨rfl, rfl⟩
  have kr0 := kr.1
  have kr1 := kr.2.1
  have kr2 := kr.2.2.1
  have kr3 := kr.2.2.2
  go_wp2
  refine bodyPost_ret (v := .tuple #[.agg #[.bool false, .slice none 0 0], .int .i64 2]) (by simp [results, Tryd.results31, go_sem, kr0, kr1]) rfl ⟨rfl, by first | exact B0 | exact below_ret B0 (by omega) _ _⟩
set_option maxRecDepth 20000 in
set_option maxHeartbeats 1000000 in
theorem riparse_long_p (s : ByteArray) (w : World) (hsz : s.size ≤ 9223372036854775807) (hs0 : 0 < s.size) (hc : (s[0].toNat : Int) ≠ 45) (hs : s.size ≤ 1000000) (h : 200 < s.size) : Calls Tryd.prog 31 #[.string s] w (PErr 5 w) := by
  have hs2 : s.toList.isEmpty = false := nonempty_toList hs0
  have e2 : ((s[0].toNat : Int) == 45) = false := by simpa using hc
  have B0 := below_a1 w (.cells #[.bool false, .slice none 0 0] 25)
  have kr := (Rx.new w (w.heap.size) (by simp))
  go_enter Tryd.func31, Tryd.ntmps31
  have kr0 := kr.1
  have kr1 := kr.2.1
  have kr2 := kr.2.2.1
  have kr3 := kr.2.2.2
  go_wp2_with fail
  refine (rparse_long s _ hs h).mono ?_
  clear kr0 kr1 kr2 kr3
  rintro e w' ⟨rfl, rfl⟩
  have kr0 := kr.1
  have kr1 := kr.2.1
  have kr2 := kr.2.2.1
  have kr3 := kr.2.2.2
  go_wp2
  refine bodyPost_ret (v := .tuple #[.agg #[.bool false, .slice none 0 0], .int .i64 5]) (by simp [results, Tryd.results31, go_sem, kr0, kr1]) rfl ⟨rfl, by first | exact B0 | exact below_ret B0 (by omega) _ _⟩
set_option maxRecDepth 20000 in
set_option maxHeartbeats 1000000 in
theorem riparse_bad_p (s : ByteArray) (w : World) (hsz : s.size ≤ 9223372036854775807) (hs0 : 0 < s.size) (hc : (s[0].toNat : Int) ≠ 45) (h : s.size ≤ 200) (hn : isNum s.data.toList = false) : Calls Tryd.prog 31 #[.string s] w (PErr 2 w) := by
  have Hn := Lib.hid hn
  clear hn
  have hs2 : s.toList.isEmpty = false := nonempty_toList hs0
  have e2 : ((s[0].toNat : Int) == 45) = false := by simpa using hc
  have B0 := below_a1 w (.cells #[.bool false, .slice none 0 0] 25)
  have kr := (Rx.new w (w.heap.size) (by simp))
  go_enter Tryd.func31, Tryd.ntmps31
  have kr0 := kr.1
  have kr1 := kr.2.1
  have kr2 := kr.2.2.1
  have kr3 := kr.2.2.2
  go_wp2_with fail
  refine (rparse_bad s _ h Hn.out).mono ?_
  clear kr0 kr1 kr2 kr3
  rintro e w' ⟨rfl, rfl⟩
  have kr0 := kr.1
  have kr1 := kr.2.1
  have kr2 := kr.2.2.1
  have kr3 := kr.2.2.2
  go_wp2
  refine bodyPost_ret (v := .tuple #[.agg #[.bool false, .slice none 0 0], .int .i64 2]) (by simp [results, Tryd.results31, go_sem, kr0, kr1]) rfl ⟨rfl, by first | exact B0 | exact below_ret B0 (by omega) _ _⟩
set_option maxRecDepth 20000 in
set_option maxHeartbeats 1000000 in
theorem riparse_p (s : ByteArray) (w : World) (hsz : s.size ≤ 9223372036854775807) (hs0 : 0 < s.size) (hc : (s[0].toNat : Int) ≠ 45) (h : s.size ≤ 200) (hn : isNum s.data.toList = true)  : Calls Tryd.prog 31 #[.string s] w (PInt (sgn false (decVal s.data.toList)) w) := by
  have Hn := Lib.hid hn
  clear hn
  have hs2 : s.toList.isEmpty = false := nonempty_toList hs0
  have e2 : ((s[0].toNat : Int) == 45) = false := by simpa using hc
  have B0 := below_a1 w (.cells #[.bool false, .slice none 0 0] 25)
  have kr := (Rx.new w (w.heap.size) (by simp))
  go_enter Tryd.func31, Tryd.ntmps31
  have kr0 := kr.1
  have kr1 := kr.2.1
  have kr2 := kr.2.2.1
  have kr3 := kr.2.2.2
  go_wp2_with fail
  refine (rparse_n s _ h Hn.out).mono ?_
  clear kr0 kr1 kr2 kr3
  rintro e w1 ⟨v1, rfl, z1, bb⟩
  have kr := kr.below bb
  have B0 := B0.trans (bb.mono B0.size)
  clear bb
  have hm1 := z1.nm
  have kr0 := kr.1
  have kr1 := kr.2.1
  have kr2 := kr.2.2.1
  have kr3 := kr.2.2.2
  go_wp2_with fail
  refine (make1_i false hm1 (by omega) _ rfl).mono ?_
  clear kr0 kr1 kr2 kr3
  rintro e w2 ⟨vr, rfl, zr, bb⟩
  have kr := kr.below bb
  have z1 := z1.below bb
  have hm1 := hm1.below bb
  have B0 := B0.trans (bb.mono B0.size)
  clear bb
  obtain ⟨br, Ar, nr, cr, rfl, zr⟩ := zr.cells
  have kr0 := kr.1
  have kr1 := kr.2.1
  have kr2 := kr.2.2.1
  have kr3 := kr.2.2.2
  go_wp2
  refine bodyPost_ret (v := .tuple #[.agg #[.bool br, .slice Ar nr cr], .int .i64 0]) (by simp [results, Tryd.results31, go_sem, kr0, kr1]) rfl ⟨_, rfl, zr.ret kr _ _, below_ret B0 (by omega) _ _⟩
set_option maxRecDepth 20000 in
set_option maxHeartbeats 1000000 in
theorem riparse_m (s : ByteArray) (w : World) (hsz : s.size ≤ 9223372036854775807) (hs0 : 0 < s.size) (hc : (s[0].toNat : Int) = 45) (h : (s.extract 1 s.size).size ≤ 200) (hn : isNum (s.extract 1 s.size).data.toList = true) (h0 : 0 < decVal (s.extract 1 s.size).data.toList) : Calls Tryd.prog 31 #[.string s] w (PInt (sgn true (decVal (s.extract 1 s.size).data.toList)) w) := by
  have Hn := Lib.hid hn
  clear hn
  have H0 := Lib.hid h0
  clear h0
  have hs2 : s.toList.isEmpty = false := nonempty_toList hs0
  have e2 : ((s[0].toNat : Int) == 45) = true := by simpa using hc
  have B0 := below_a1 w (.cells #[.bool false, .slice none 0 0] 25)
  have kr := (Rx.new w (w.heap.size) (by simp))
  go_enter Tryd.func31, Tryd.ntmps31
  have kr0 := kr.1
  have kr1 := kr.2.1
  have kr2 := kr.2.2.1
  have kr3 := kr.2.2.2
  go_wp2_with fail
  refine (rparse_n (s.extract 1 s.size) _ h Hn.out).mono ?_
  clear kr0 kr1 kr2 kr3
  rintro e w1 ⟨v1, rfl, z1, bb⟩
  have kr := kr.below bb
  have B0 := B0.trans (bb.mono B0.size)
  clear bb
  have hm1 := z1.nm
  have kr0 := kr.1
  have kr1 := kr.2.1
  have kr2 := kr.2.2.1
  have kr3 := kr.2.2.2
  go_wp2_with fail
  refine (rnorm_n hm1 (by omega)).mono ?_
  clear kr0 kr1 kr2 kr3
  rintro e w2 ⟨v2, rfl, z2, bb⟩
  have kr := kr.below bb
  have z1 := z1.below bb
  have hm1 := hm1.below bb
  have B0 := B0.trans (bb.mono B0.size)
  clear bb
  have z2 := z2.nz
  obtain ⟨A2, n2, c2, rfl, _, _⟩ := z2.nm.form
  have hn2 : 0 < n2 := by have h1 := z2.len0.1.1; have h2 := H0.out; omega
  have kr0 := kr.1
  have kr1 := kr.2.1
  have kr2 := kr.2.2.1
  have kr3 := kr.2.2.2
  go_wp2_with fail
  refine (make1_i true hm1 (by omega) _ rfl).mono ?_
  clear kr0 kr1 kr2 kr3
  rintro e w3 ⟨vr, rfl, zr, bb⟩
  have kr := kr.below bb
  have z1 := z1.below bb
  have hm1 := hm1.below bb
  have z2 := z2.below bb
  have B0 := B0.trans (bb.mono B0.size)
  clear bb
  obtain ⟨br, Ar, nr, cr, rfl, zr⟩ := zr.cells
  have kr0 := kr.1
  have kr1 := kr.2.1
  have kr2 := kr.2.2.1
  have kr3 := kr.2.2.2
  go_wp2
  refine bodyPost_ret (v := .tuple #[.agg #[.bool br, .slice Ar nr cr], .int .i64 0]) (by simp [results, Tryd.results31, go_sem, kr0, kr1]) rfl ⟨_, rfl, zr.ret kr _ _, below_ret B0 (by omega) _ _⟩
set_option maxRecDepth 20000 in
set_option maxHeartbeats 1000000 in
theorem riparse_z (s : ByteArray) (w : World) (hsz : s.size ≤ 9223372036854775807) (hs0 : 0 < s.size) (hc : (s[0].toNat : Int) = 45) (h : (s.extract 1 s.size).size ≤ 200) (hn : isNum (s.extract 1 s.size).data.toList = true) (h0 : decVal (s.extract 1 s.size).data.toList = 0) : Calls Tryd.prog 31 #[.string s] w (PErr 2 w) := by
  have Hn := Lib.hid hn
  clear hn
  have H0 := Lib.hid h0
  clear h0
  have hs2 : s.toList.isEmpty = false := nonempty_toList hs0
  have e2 : ((s[0].toNat : Int) == 45) = true := by simpa using hc
  have B0 := below_a1 w (.cells #[.bool false, .slice none 0 0] 25)
  have kr := (Rx.new w (w.heap.size) (by simp))
  go_enter Tryd.func31, Tryd.ntmps31
  have kr0 := kr.1
  have kr1 := kr.2.1
  have kr2 := kr.2.2.1
  have kr3 := kr.2.2.2
  go_wp2_with fail
  refine (rparse_n (s.extract 1 s.size) _ h Hn.out).mono ?_
  clear kr0 kr1 kr2 kr3
  rintro e w1 ⟨v1, rfl, z1, bb⟩
  have kr := kr.below bb
  have B0 := B0.trans (bb.mono B0.size)
  clear bb
  have hm1 := z1.nm
  have kr0 := kr.1
  have kr1 := kr.2.1
  have kr2 := kr.2.2.1
  have kr3 := kr.2.2.2
  go_wp2_with fail
  refine (rnorm_n hm1 (by omega)).mono ?_
  clear kr0 kr1 kr2 kr3
  rintro e w2 ⟨v2, rfl, z2, bb⟩
  have kr := kr.below bb
  have z1 := z1.below bb
  have hm1 := hm1.below bb
  have B0 := B0.trans (bb.mono B0.size)
  clear bb
  have z2 := z2.nz
  obtain ⟨A2, n2, c2, rfl, _, _⟩ := z2.nm.form
  have hn2 : n2 = 0 := z2.len0.1.2 H0.out
  subst hn2
  have kr0 := kr.1
  have kr1 := kr.2.1
  have kr2 := kr.2.2.1
  have kr3 := kr.2.2.2
  go_wp2
  refine bodyPost_ret (v := .tuple #[.agg #[.bool false, .slice none 0 0], .int .i64 2]) (by simp [results, Tryd.results31, go_sem, kr0, kr1]) rfl ⟨rfl, by first | exact B0 | exact below_ret B0 (by omega) _ _⟩
end Go.Proofs.YthcoemkbdllcfaaDoor
