/-
  The walk of measure.Parse at any string.
-/
import Derived.Test.YtohlilgnognmgaaGreatDoorMeaP
namespace Go.Proofs.YtohlilgnognmgaaGreatDoor
open Go.RowKit Mea
attribute [local go_sem ↓] Go.wp_at_zero Go.wp_at_succ
set_option linter.unusedVariables false

/-- What Parse answers: an error; a length. -/
def MErr (code : Int) (w : World) (e : Ending) (w' : World) : Prop := e = .returned (.tuple #[.agg #[.bool false, .slice none 0 0, .slice none 0 0], .int .i64 code]) ∧ Below w.heap.size w w'
def MEnd (x : Rat) (w : World) (e : Ending) (w' : World) : Prop := ∃ b A n c B m c', e = .returned (.tuple #[.agg #[.bool b, .slice A n c, .slice B m c'], .int .i64 0]) ∧ Qz w' (.agg #[.bool b, .slice A n c, .slice B m c']) x 2 2 ∧ Below w.heap.size w w'
def Ret2 (d : ByteArray) (b : Bool) (w : World) (e : Ending) (w' : World) : Prop := e = .returned (.tuple #[.string d, .bool b]) ∧ Below w.heap.size w w'
def Str2 (p u : ByteArray) (w : World) (e : Ending) (w' : World) : Prop := e = .returned (.tuple #[.string p, .string u]) ∧ Below w.heap.size w w'
set_option maxRecDepth 20000 in
set_option maxHeartbeats 2000000 in
theorem mparse_long (s : ByteArray) (w : World) (h : (24 : Int) < (s.size : Int)) : Calls Tryz.prog 14 #[.string s] w (MErr 5 w) := by
  have B0 := below_a1 w (.cells #[.bool false, .slice none 0 0, .slice none 0 0] 27)
  have kr := (Rq.new w (w.heap.size) (by simp))
  go_enter Tryz.func14, Tryz.ntmps14
  have kr_0 := kr.1
  have kr_1 := kr.2.1
  have kr_2 := kr.2.2.1
  have kr_3 := kr.2.2.2.1
  have kr_4 := kr.2.2.2.2.1
  have kr_5 := kr.2.2.2.2.2
  go_wp2
  refine bodyPost_ret (v := .tuple #[.agg #[.bool false, .slice none 0 0, .slice none 0 0], .int .i64 5]) (by simp [results, Tryz.results14, go_sem, kr_0, kr_1, kr_2]) rfl (by first | exact ⟨rfl, B0⟩ | exact ⟨rfl, below_ret3 B0 (by omega) _ _ _⟩)
set_option maxRecDepth 20000 in
set_option maxHeartbeats 2000000 in
theorem mparse_bad_u (s d p u : ByteArray) (neg : Bool) (k : Nat) (v : Nat × Nat × Bool) (w : World) (hs : ¬ (24 : Int) < (s.size : Int))
    (hc : ∀ w, Calls Tryz.prog 33 #[.string s, .string ⟨#[45]⟩] w (Ret2 d neg w))
    (hu : ∀ w, Calls Tryz.prog 34 #[.string d] w (Str2 p u w))
    (hz : ∀ w, Calls Tryz.prog 35 #[.string u] w (SmallEnd k false w))
    (hv : ∀ w, Calls Tryz.prog 36 #[.string p] w (VEnd v w)) : Calls Tryz.prog 14 #[.string s] w (MErr 2 w) := by
  have HC := Lib.hid hc
  clear hc
  have HU := Lib.hid hu
  clear hu
  have HZ := Lib.hid hz
  clear hz
  have HV := Lib.hid hv
  clear hv
  have B0 := below_a1 w (.cells #[.bool false, .slice none 0 0, .slice none 0 0] 27)
  have kr := (Rq.new w (w.heap.size) (by simp))
  go_enter Tryz.func14, Tryz.ntmps14
  have kr_0 := kr.1
  have kr_1 := kr.2.1
  have kr_2 := kr.2.2.1
  have kr_3 := kr.2.2.2.1
  have kr_4 := kr.2.2.2.2.1
  have kr_5 := kr.2.2.2.2.2
  go_wp2_with fail
  refine (HC.out _).mono ?_
  clear kr_0 kr_1 kr_2 kr_3 kr_4 kr_5
  rintro e w1 ⟨rfl, bb⟩
  have kr := kr.below bb
  have B0 := B0.trans (bb.mono B0.size)
  clear bb
  have kr_0 := kr.1
  have kr_1 := kr.2.1
  have kr_2 := kr.2.2.1
  have kr_3 := kr.2.2.2.1
  have kr_4 := kr.2.2.2.2.1
  have kr_5 := kr.2.2.2.2.2
  go_wp2_with fail
  refine (HU.out _).mono ?_
  clear kr_0 kr_1 kr_2 kr_3 kr_4 kr_5
  rintro e w2 ⟨rfl, bb⟩
  have kr := kr.below bb
  have B0 := B0.trans (bb.mono B0.size)
  clear bb
  have kr_0 := kr.1
  have kr_1 := kr.2.1
  have kr_2 := kr.2.2.1
  have kr_3 := kr.2.2.2.1
  have kr_4 := kr.2.2.2.2.1
  have kr_5 := kr.2.2.2.2.2
  go_wp2_with fail
  refine (HZ.out _).mono ?_
  clear kr_0 kr_1 kr_2 kr_3 kr_4 kr_5
  rintro e w3 ⟨rfl, bb⟩
  have kr := kr.below bb
  have B0 := B0.trans (bb.mono B0.size)
  clear bb
  have kr_0 := kr.1
  have kr_1 := kr.2.1
  have kr_2 := kr.2.2.1
  have kr_3 := kr.2.2.2.1
  have kr_4 := kr.2.2.2.2.1
  have kr_5 := kr.2.2.2.2.2
  go_wp2_with fail
  refine (HV.out _).mono ?_
  clear kr_0 kr_1 kr_2 kr_3 kr_4 kr_5
  rintro e w4 ⟨x, y, rfl, hxy, bb⟩
  have kr := kr.below bb
  have B0 := B0.trans (bb.mono B0.size)
  clear bb
  clear hxy
  have kr_0 := kr.1
  have kr_1 := kr.2.1
  have kr_2 := kr.2.2.1
  have kr_3 := kr.2.2.2.1
  have kr_4 := kr.2.2.2.2.1
  have kr_5 := kr.2.2.2.2.2
  go_wp2
  refine bodyPost_ret (v := .tuple #[.agg #[.bool false, .slice none 0 0, .slice none 0 0], .int .i64 2]) (by simp [results, Tryz.results14, go_sem, kr_0, kr_1, kr_2]) rfl (by first | exact ⟨rfl, B0⟩ | exact ⟨rfl, below_ret3 B0 (by omega) _ _ _⟩)
set_option maxRecDepth 20000 in
set_option maxHeartbeats 2000000 in
theorem mparse_bad_v (s d p u : ByteArray) (neg : Bool) (k : Nat) (v : Nat × Nat × Bool) (w : World) (hs : ¬ (24 : Int) < (s.size : Int))
    (hc : ∀ w, Calls Tryz.prog 33 #[.string s, .string ⟨#[45]⟩] w (Ret2 d neg w))
    (hu : ∀ w, Calls Tryz.prog 34 #[.string d] w (Str2 p u w))
    (hz : ∀ w, Calls Tryz.prog 35 #[.string u] w (SmallEnd k true w))
    (hv : ∀ w, Calls Tryz.prog 36 #[.string p] w (VEnd v w)) (hb : v.2.2 = false) : Calls Tryz.prog 14 #[.string s] w (MErr 2 w) := by
  have HC := Lib.hid hc
  clear hc
  have HU := Lib.hid hu
  clear hu
  have HZ := Lib.hid hz
  clear hz
  have HV := Lib.hid hv
  clear hv
  have HB := Lib.hid hb
  clear hb
  have B0 := below_a1 w (.cells #[.bool false, .slice none 0 0, .slice none 0 0] 27)
  have kr := (Rq.new w (w.heap.size) (by simp))
  go_enter Tryz.func14, Tryz.ntmps14
  have kr_0 := kr.1
  have kr_1 := kr.2.1
  have kr_2 := kr.2.2.1
  have kr_3 := kr.2.2.2.1
  have kr_4 := kr.2.2.2.2.1
  have kr_5 := kr.2.2.2.2.2
  go_wp2_with fail
  refine (HC.out _).mono ?_
  clear kr_0 kr_1 kr_2 kr_3 kr_4 kr_5
  rintro e w1 ⟨rfl, bb⟩
  have kr := kr.below bb
  have B0 := B0.trans (bb.mono B0.size)
  clear bb
  have kr_0 := kr.1
  have kr_1 := kr.2.1
  have kr_2 := kr.2.2.1
  have kr_3 := kr.2.2.2.1
  have kr_4 := kr.2.2.2.2.1
  have kr_5 := kr.2.2.2.2.2
  go_wp2_with fail
  refine (HU.out _).mono ?_
  clear kr_0 kr_1 kr_2 kr_3 kr_4 kr_5
  rintro e w2 ⟨rfl, bb⟩
  have kr := kr.below bb
  have B0 := B0.trans (bb.mono B0.size)
  clear bb
  have kr_0 := kr.1
  have kr_1 := kr.2.1
  have kr_2 := kr.2.2.1
  have kr_3 := kr.2.2.2.1
  have kr_4 := kr.2.2.2.2.1
  have kr_5 := kr.2.2.2.2.2
  go_wp2_with fail
  refine (HZ.out _).mono ?_
  clear kr_0 kr_1 kr_2 kr_3 kr_4 kr_5
  rintro e w3 ⟨rfl, bb⟩
  have kr := kr.below bb
  have B0 := B0.trans (bb.mono B0.size)
  clear bb
  have kr_0 := kr.1
  have kr_1 := kr.2.1
  have kr_2 := kr.2.2.1
  have kr_3 := kr.2.2.2.1
  have kr_4 := kr.2.2.2.2.1
  have kr_5 := kr.2.2.2.2.2
  go_wp2_with fail
  refine (HV.out _).mono ?_
  clear kr_0 kr_1 kr_2 kr_3 kr_4 kr_5
  rintro e w4 ⟨x, y, rfl, hxy, bb⟩
  have kr := kr.below bb
  have B0 := B0.trans (bb.mono B0.size)
  clear bb
  clear hxy
  rw [HB.out]
  have kr_0 := kr.1
  have kr_1 := kr.2.1
  have kr_2 := kr.2.2.1
  have kr_3 := kr.2.2.2.1
  have kr_4 := kr.2.2.2.2.1
  have kr_5 := kr.2.2.2.2.2
  go_wp2
  refine bodyPost_ret (v := .tuple #[.agg #[.bool false, .slice none 0 0, .slice none 0 0], .int .i64 2]) (by simp [results, Tryz.results14, go_sem, kr_0, kr_1, kr_2]) rfl (by first | exact ⟨rfl, B0⟩ | exact ⟨rfl, below_ret3 B0 (by omega) _ _ _⟩)
set_option maxRecDepth 20000 in
set_option maxHeartbeats 2000000 in
theorem mparse_pos (s d p u : ByteArray) (k : Nat) (N D : Nat) (w : World) (hs : ¬ (24 : Int) < (s.size : Int))
    (hc : ∀ w, Calls Tryz.prog 33 #[.string s, .string ⟨#[45]⟩] w (Ret2 d false w))
    (hu : ∀ w, Calls Tryz.prog 34 #[.string d] w (Str2 p u w))
    (hz : ∀ w, Calls Tryz.prog 35 #[.string u] w (SmallEnd k true w))
    (hv : ∀ w, Calls Tryz.prog 36 #[.string p] w (VEnd (N, D, true) w)) (hk : k ≤ 100000) (hN : N < 200000000000) (hD : 0 < D ∧ D ≤ 10000) (q : Rat) (hq : mkRat (sgn false (N * k)) D = q) : Calls Tryz.prog 14 #[.string s] w (MEnd q w) := by
  have HC := Lib.hid hc
  clear hc
  have HU := Lib.hid hu
  clear hu
  have HZ := Lib.hid hz
  clear hz
  have HV := Lib.hid hv
  clear hv
  have hm : N * k ≤ 200000000000 * 100000 := Nat.mul_le_mul (by omega) hk
  have he : (((N * k : Nat)) : Int) = (N : Int) * (k : Int) := by push_cast; rfl
  have e1' : IntKind.i64.wrap ((N : Int) * (k : Int)) = (N : Int) * (k : Int) := by rw [IntKind.wrap_i64, ← he]; omega
  have r1 : -9223372036854775808 ≤ (N : Int) * (k : Int) := by rw [← he]; omega
  have r2 : (N : Int) * (k : Int) < 9223372036854775808 := by rw [← he]; omega
  have r3 : -9223372036854775808 ≤ (D : Int) := by omega
  have r4 : (D : Int) < 9223372036854775808 := by omega
  have r5 : (D : Int) ≠ 0 := by omega
  have hq' : (((N : Int) * (k : Int) : Int) : Rat) / ((D : Int) : Rat) = q := by
    rw [← hq, Rat.mkRat_eq_div]
    simp only [sgn, if_false, Bool.false_eq_true]
    push_cast
    rfl
  have R1 := Lib.hid r1
  have R2 := Lib.hid r2
  have R3 := Lib.hid r3
  have R4 := Lib.hid r4
  have R5 := Lib.hid r5
  have HQ := Lib.hid hq'
  clear r1 r2 r3 r4 r5 hq' hq hm he
  obtain ⟨Z, hZ⟩ : ∃ Z, Z = (N : Int) * (k : Int) := ⟨_, rfl⟩
  have e1 : IntKind.i64.wrap ((N : Int) * (k : Int)) = Z := by rw [e1', hZ]
  rw [← hZ] at R1 R2 HQ
  clear e1' hZ
  have B0 := below_a1 w (.cells #[.bool false, .slice none 0 0, .slice none 0 0] 27)
  have kr := (Rq.new w (w.heap.size) (by simp))
  go_enter Tryz.func14, Tryz.ntmps14
  have kr_0 := kr.1
  have kr_1 := kr.2.1
  have kr_2 := kr.2.2.1
  have kr_3 := kr.2.2.2.1
  have kr_4 := kr.2.2.2.2.1
  have kr_5 := kr.2.2.2.2.2
  go_wp2_with fail
  refine (HC.out _).mono ?_
  clear kr_0 kr_1 kr_2 kr_3 kr_4 kr_5
  rintro e w1 ⟨rfl, bb⟩
  have kr := kr.below bb
  have B0 := B0.trans (bb.mono B0.size)
  clear bb
  have kr_0 := kr.1
  have kr_1 := kr.2.1
  have kr_2 := kr.2.2.1
  have kr_3 := kr.2.2.2.1
  have kr_4 := kr.2.2.2.2.1
  have kr_5 := kr.2.2.2.2.2
  go_wp2_with fail
  refine (HU.out _).mono ?_
  clear kr_0 kr_1 kr_2 kr_3 kr_4 kr_5
  rintro e w2 ⟨rfl, bb⟩
  have kr := kr.below bb
  have B0 := B0.trans (bb.mono B0.size)
  clear bb
  have kr_0 := kr.1
  have kr_1 := kr.2.1
  have kr_2 := kr.2.2.1
  have kr_3 := kr.2.2.2.1
  have kr_4 := kr.2.2.2.2.1
  have kr_5 := kr.2.2.2.2.2
  go_wp2_with fail
  refine (HZ.out _).mono ?_
  clear kr_0 kr_1 kr_2 kr_3 kr_4 kr_5
  rintro e w3 ⟨rfl, bb⟩
  have kr := kr.below bb
  have B0 := B0.trans (bb.mono B0.size)
  clear bb
  have kr_0 := kr.1
  have kr_1 := kr.2.1
  have kr_2 := kr.2.2.1
  have kr_3 := kr.2.2.2.1
  have kr_4 := kr.2.2.2.2.1
  have kr_5 := kr.2.2.2.2.2
  go_wp2_with fail
  refine (HV.out _).mono ?_
  clear kr_0 kr_1 kr_2 kr_3 kr_4 kr_5
  rintro e w4 ⟨x, y, rfl, hxy, bb⟩
  have kr := kr.below bb
  have B0 := B0.trans (bb.mono B0.size)
  clear bb
  obtain ⟨rfl, rfl⟩ : x = N ∧ y = D := hxy rfl
  clear hxy
  have kr_0 := kr.1
  have kr_1 := kr.2.1
  have kr_2 := kr.2.2.1
  have kr_3 := kr.2.2.2.1
  have kr_4 := kr.2.2.2.2.1
  have kr_5 := kr.2.2.2.2.2
  go_wp2_with fail
  refine (qof_p Z (D : Int) R1.out R2.out R3.out R4.out _ R5.out q HQ.out).mono ?_
  clear kr_0 kr_1 kr_2 kr_3 kr_4 kr_5
  rintro e w5 ⟨br, Ar, nr, cr, Br, mr, dr, rfl, zr, bb⟩
  have kr := kr.below bb
  have B0 := B0.trans (bb.mono B0.size)
  clear bb
  clear hN hk hD e1 hs
  have zr_w5 := zr
  have lkr_w5 := kr.apart.1
  have B0_w5 := B0
  have kr_w5 := kr
  have kr_w5_0 := kr.1
  have kr_w5_1 := kr.2.1
  have kr_w5_2 := kr.2.2.1
  have kr_w5_3 := kr.2.2.2.1
  have kr_w5_4 := kr.2.2.2.2.1
  have kr_w5_5 := kr.2.2.2.2.2
  have kr := kr.below (below_alloc w5 (.cells #[.bool br, .slice Ar nr cr, .slice Br mr dr] 27))
  have zr := zr.below (below_alloc w5 (.cells #[.bool br, .slice Ar nr cr, .slice Br mr dr] 27))
  have kl := Bq.new w5 (w5.heap.size) (by simp) (.bool br) (.slice Ar nr cr) (.slice Br mr dr)
  have B0 := B0.trans ((below_alloc w5 (.cells #[.bool br, .slice Ar nr cr, .slice Br mr dr] 27)).mono B0.size)
  have KX := (kr_w5.written (.bool br) (.slice Ar nr cr) (.slice Br mr dr)).later (.cells #[.bool br, .slice Ar nr cr, .slice Br mr dr] 27)
  have kx0 := KX.c0
  have kx1 := KX.c1
  have kx2 := KX.c2
  have BX := (below_ret3 B0_w5 (Nat.le_refl w.heap.size) (.bool br) (.slice Ar nr cr) (.slice Br mr dr)).trans ((below_alloc _ (.cells #[.bool br, .slice Ar nr cr, .slice Br mr dr] 27)).mono (below_ret3 B0_w5 (Nat.le_refl w.heap.size) (.bool br) (.slice Ar nr cr) (.slice Br mr dr)).size)
  have ZX := (zr_w5.ret3 kr_w5 (.bool br) (.slice Ar nr cr) (.slice Br mr dr)).later (.cells #[.bool br, .slice Ar nr cr, .slice Br mr dr] 27)
  have kl_0 := kl.c0
  have kl_1 := kl.c1
  have kl_2 := kl.c2
  have kr_0 := kr.1
  have kr_1 := kr.2.1
  have kr_2 := kr.2.2.1
  have kr_3 := kr.2.2.2.1
  have kr_4 := kr.2.2.2.2.1
  have kr_5 := kr.2.2.2.2.2
  go_wp2
  refine bodyPost_ret (v := .tuple #[.agg #[.bool br, .slice Ar nr cr, .slice Br mr dr], .int .i64 0]) (by simp [results, Tryz.results14, go_sem, kx0, kx1, kx2]) rfl ⟨_, _, _, _, _, _, _, rfl, ZX, BX⟩
set_option maxRecDepth 20000 in
set_option maxHeartbeats 2000000 in
theorem mparse_neg (s d p u : ByteArray) (k : Nat) (N D : Nat) (w : World) (hs : ¬ (24 : Int) < (s.size : Int))
    (hc : ∀ w, Calls Tryz.prog 33 #[.string s, .string ⟨#[45]⟩] w (Ret2 d true w))
    (hu : ∀ w, Calls Tryz.prog 34 #[.string d] w (Str2 p u w))
    (hz : ∀ w, Calls Tryz.prog 35 #[.string u] w (SmallEnd k true w))
    (hv : ∀ w, Calls Tryz.prog 36 #[.string p] w (VEnd (N, D, true) w)) (hk : k ≤ 100000) (hN : N < 200000000000) (hD : 0 < D ∧ D ≤ 10000) (q : Rat) (hq : mkRat (sgn true (N * k)) D = q) : Calls Tryz.prog 14 #[.string s] w (MEnd q w) := by
  have HC := Lib.hid hc
  clear hc
  have HU := Lib.hid hu
  clear hu
  have HZ := Lib.hid hz
  clear hz
  have HV := Lib.hid hv
  clear hv
  have hm : N * k ≤ 200000000000 * 100000 := Nat.mul_le_mul (by omega) hk
  have he : (((N * k : Nat)) : Int) = (N : Int) * (k : Int) := by push_cast; rfl
  have e0 : IntKind.i64.wrap (-(N : Int)) = -(N : Int) := by rw [IntKind.wrap_i64]; omega
  have e1' : IntKind.i64.wrap ((-(N : Int)) * (k : Int)) = (-(N : Int)) * (k : Int) := by rw [IntKind.wrap_i64, Int.neg_mul, ← he]; omega
  have r1 : -9223372036854775808 ≤ (-(N : Int)) * (k : Int) := by rw [Int.neg_mul]; rw [← he]; omega
  have r2 : (-(N : Int)) * (k : Int) < 9223372036854775808 := by rw [Int.neg_mul]; rw [← he]; omega
  have r3 : -9223372036854775808 ≤ (D : Int) := by omega
  have r4 : (D : Int) < 9223372036854775808 := by omega
  have r5 : (D : Int) ≠ 0 := by omega
  have hq' : (((-(N : Int)) * (k : Int) : Int) : Rat) / ((D : Int) : Rat) = q := by
    rw [← hq, Rat.mkRat_eq_div]
    simp only [sgn, if_true]
    push_cast
    grind
  have R1 := Lib.hid r1
  have R2 := Lib.hid r2
  have R3 := Lib.hid r3
  have R4 := Lib.hid r4
  have R5 := Lib.hid r5
  have HQ := Lib.hid hq'
  clear r1 r2 r3 r4 r5 hq' hq hm he
  obtain ⟨Z, hZ⟩ : ∃ Z, Z = (-(N : Int)) * (k : Int) := ⟨_, rfl⟩
  have e1 : IntKind.i64.wrap ((-(N : Int)) * (k : Int)) = Z := by rw [e1', hZ]
  rw [← hZ] at R1 R2 HQ
  clear e1' hZ
  have B0 := below_a1 w (.cells #[.bool false, .slice none 0 0, .slice none 0 0] 27)
  have kr := (Rq.new w (w.heap.size) (by simp))
  go_enter Tryz.func14, Tryz.ntmps14
  have kr_0 := kr.1
  have kr_1 := kr.2.1
  have kr_2 := kr.2.2.1
  have kr_3 := kr.2.2.2.1
  have kr_4 := kr.2.2.2.2.1
  have kr_5 := kr.2.2.2.2.2
  go_wp2_with fail
  refine (HC.out _).mono ?_
  clear kr_0 kr_1 kr_2 kr_3 kr_4 kr_5
  rintro e w1 ⟨rfl, bb⟩
  have kr := kr.below bb
  have B0 := B0.trans (bb.mono B0.size)
  clear bb
  have kr_0 := kr.1
  have kr_1 := kr.2.1
  have kr_2 := kr.2.2.1
  have kr_3 := kr.2.2.2.1
  have kr_4 := kr.2.2.2.2.1
  have kr_5 := kr.2.2.2.2.2
  go_wp2_with fail
  refine (HU.out _).mono ?_
  clear kr_0 kr_1 kr_2 kr_3 kr_4 kr_5
  rintro e w2 ⟨rfl, bb⟩
  have kr := kr.below bb
  have B0 := B0.trans (bb.mono B0.size)
  clear bb
  have kr_0 := kr.1
  have kr_1 := kr.2.1
  have kr_2 := kr.2.2.1
  have kr_3 := kr.2.2.2.1
  have kr_4 := kr.2.2.2.2.1
  have kr_5 := kr.2.2.2.2.2
  go_wp2_with fail
  refine (HZ.out _).mono ?_
  clear kr_0 kr_1 kr_2 kr_3 kr_4 kr_5
  rintro e w3 ⟨rfl, bb⟩
  have kr := kr.below bb
  have B0 := B0.trans (bb.mono B0.size)
  clear bb
  have kr_0 := kr.1
  have kr_1 := kr.2.1
  have kr_2 := kr.2.2.1
  have kr_3 := kr.2.2.2.1
  have kr_4 := kr.2.2.2.2.1
  have kr_5 := kr.2.2.2.2.2
  go_wp2_with fail
  refine (HV.out _).mono ?_
  clear kr_0 kr_1 kr_2 kr_3 kr_4 kr_5
  rintro e w4 ⟨x, y, rfl, hxy, bb⟩
  have kr := kr.below bb
  have B0 := B0.trans (bb.mono B0.size)
  clear bb
  obtain ⟨rfl, rfl⟩ : x = N ∧ y = D := hxy rfl
  clear hxy
  have kr_0 := kr.1
  have kr_1 := kr.2.1
  have kr_2 := kr.2.2.1
  have kr_3 := kr.2.2.2.1
  have kr_4 := kr.2.2.2.2.1
  have kr_5 := kr.2.2.2.2.2
  go_wp2_with fail
  refine (qof_p Z (D : Int) R1.out R2.out R3.out R4.out _ R5.out q HQ.out).mono ?_
  clear kr_0 kr_1 kr_2 kr_3 kr_4 kr_5
  rintro e w5 ⟨br, Ar, nr, cr, Br, mr, dr, rfl, zr, bb⟩
  have kr := kr.below bb
  have B0 := B0.trans (bb.mono B0.size)
  clear bb
  clear hN hk hD e1 hs e0
  have zr_w5 := zr
  have lkr_w5 := kr.apart.1
  have B0_w5 := B0
  have kr_w5 := kr
  have kr_w5_0 := kr.1
  have kr_w5_1 := kr.2.1
  have kr_w5_2 := kr.2.2.1
  have kr_w5_3 := kr.2.2.2.1
  have kr_w5_4 := kr.2.2.2.2.1
  have kr_w5_5 := kr.2.2.2.2.2
  have kr := kr.below (below_alloc w5 (.cells #[.bool br, .slice Ar nr cr, .slice Br mr dr] 27))
  have zr := zr.below (below_alloc w5 (.cells #[.bool br, .slice Ar nr cr, .slice Br mr dr] 27))
  have kl := Bq.new w5 (w5.heap.size) (by simp) (.bool br) (.slice Ar nr cr) (.slice Br mr dr)
  have B0 := B0.trans ((below_alloc w5 (.cells #[.bool br, .slice Ar nr cr, .slice Br mr dr] 27)).mono B0.size)
  have KX := (kr_w5.written (.bool br) (.slice Ar nr cr) (.slice Br mr dr)).later (.cells #[.bool br, .slice Ar nr cr, .slice Br mr dr] 27)
  have kx0 := KX.c0
  have kx1 := KX.c1
  have kx2 := KX.c2
  have BX := (below_ret3 B0_w5 (Nat.le_refl w.heap.size) (.bool br) (.slice Ar nr cr) (.slice Br mr dr)).trans ((below_alloc _ (.cells #[.bool br, .slice Ar nr cr, .slice Br mr dr] 27)).mono (below_ret3 B0_w5 (Nat.le_refl w.heap.size) (.bool br) (.slice Ar nr cr) (.slice Br mr dr)).size)
  have ZX := (zr_w5.ret3 kr_w5 (.bool br) (.slice Ar nr cr) (.slice Br mr dr)).later (.cells #[.bool br, .slice Ar nr cr, .slice Br mr dr] 27)
  have kl_0 := kl.c0
  have kl_1 := kl.c1
  have kl_2 := kl.c2
  have kr_0 := kr.1
  have kr_1 := kr.2.1
  have kr_2 := kr.2.2.1
  have kr_3 := kr.2.2.2.1
  have kr_4 := kr.2.2.2.2.1
  have kr_5 := kr.2.2.2.2.2
  go_wp2
  refine bodyPost_ret (v := .tuple #[.agg #[.bool br, .slice Ar nr cr, .slice Br mr dr], .int .i64 0]) (by simp [results, Tryz.results14, go_sem, kx0, kx1, kx2]) rfl ⟨_, _, _, _, _, _, _, rfl, ZX, BX⟩
theorem cutp (s : ByteArray) (w : World) : Calls Tryz.prog 33 #[.string s, .string ⟨#[45]⟩] w (Ret2 (ofL (Lib.trimPrefix s.data.toList [45])) (Lib.hasPrefix s.data.toList [45]) w) :=
  (cut_i s w _ _ rfl rfl).mono fun _ _ ⟨h1, h2⟩ => ⟨h1, h2 ▸ Below.refl _ _⟩
theorem trimp_len (l : List UInt8) : (Lib.trimPrefix l [45]).length ≤ l.length := Lib.trimPrefix_le _ _
theorem cutU_len (l : List UInt8) : (cutU l).1.length ≤ l.length := by
  have := congrArg List.length (List.takeWhile_append_dropWhile (p := fun c => !isLet c) (l := l))
  rw [List.length_append] at this
  simp only [cutU]; omega
theorem mparse_no (s : ByteArray) (w : World) (hs : s.size ≤ 24) (h : pMea s.data.toList = none) : Calls Tryz.prog 14 #[.string s] w (MErr 2 w) := by
  have hs' : ¬ (24 : Int) < (s.size : Int) := by omega
  have l1 := trimp_len s.data.toList
  rw [list_len] at l1
  simp only [pMea] at h
  split at h
  · cases h
  · rename_i hb
    generalize hd : Lib.trimPrefix s.data.toList [45] = d at *
    have l2 := cutU_len d
    have c1 : ∀ w, _ := fun w => cutp s w
    rw [hd] at c1
    have c2 : ∀ w, Calls Tryz.prog 34 #[.string (ofL d)] w (Str2 (ofL (cutU d).1) (ofL (cutU d).2) w) := fun w => cutu_walk (ofL d) w (by rw [ofL_size]; omega)
    have c3 := fun w => unit_walk (cutU d).2 w
    have c4 := fun w => pval_walk (cutU d).1 w (by omega)
    simp only [pBody, Bool.not_eq_true, Bool.and_eq_false_iff] at hb
    by_cases hu : (pUnit (cutU d).2).2 = true
    · rw [hu] at c3
      have hv : (pVal (cutU d).1).2.2 = false := by
        rcases hb with hb | hb
        · rw [hu] at hb; cases hb
        · exact hb
      exact mparse_bad_v s _ _ _ _ _ _ w hs' c1 c2 c3 c4 hv
    · have hu : (pUnit (cutU d).2).2 = false := by simpa using hu
      rw [hu] at c3
      exact mparse_bad_u s _ _ _ _ _ _ w hs' c1 c2 c3 c4
theorem mparse_yes (s : ByteArray) (w : World) (hs : s.size ≤ 24) (q : Rat) (h : pMea s.data.toList = some q) : Calls Tryz.prog 14 #[.string s] w (MEnd q w) := by
  have hs' : ¬ (24 : Int) < (s.size : Int) := by omega
  have l1 := trimp_len s.data.toList
  rw [list_len] at l1
  simp only [pMea] at h
  split at h
  · rename_i hb
    have hq := Option.some.inj h
    clear h
    have c1 : ∀ w, _ := fun w => cutp s w
    generalize Lib.trimPrefix s.data.toList [45] = d at *
    have l2 := cutU_len d
    have c2 : ∀ w, Calls Tryz.prog 34 #[.string (ofL d)] w (Str2 (ofL (cutU d).1) (ofL (cutU d).2) w) := fun w => cutu_walk (ofL d) w (by rw [ofL_size]; omega)
    have c3 := fun w => unit_walk (cutU d).2 w
    have c4 := fun w => pval_walk (cutU d).1 w (by omega)
    simp only [pBody, Bool.and_eq_true] at hb
    simp only [pBody] at hq
    have hk := pUnit_le (cutU d).2
    have hv := pVal_den (cutU d).1 hb.2
    rw [hb.1] at c3
    generalize (pUnit (cutU d).2).1 = k at *
    generalize hvv : pVal (cutU d).1 = v at *
    obtain ⟨N, D, f⟩ := v
    obtain rfl : f = true := hb.2
    rcases hn : Lib.hasPrefix s.data.toList [45] with _ | _
    · rw [hn] at c1 hq
      exact mparse_pos s _ _ _ k N D w hs' c1 c2 c3 c4 hk hv.2.2 ⟨hv.1, hv.2.1⟩ q hq
    · rw [hn] at c1 hq
      exact mparse_neg s _ _ _ k N D w hs' c1 c2 c3 c4 hk hv.2.2 ⟨hv.1, hv.2.1⟩ q hq
  · cases h
end Go.Proofs.YtohlilgnognmgaaGreatDoor
