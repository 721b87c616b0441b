/-
  The walks of integer.Of, Text and DivMod.
-/
import Derived.Test.YthcoemkbdllcfaaDoorIntB
import Derived.Test.YthcoemkbdllcfaaDoorBuilder
namespace Go.Proofs.YthcoemkbdllcfaaDoor
open Go.RowKit
attribute [local go_sem ↓] Go.wp_at_zero Go.wp_at_succ
set_option linter.unusedVariables false

theorem of_z {w : World} (z : Int) (n : Nat) (hz : z = (n : Int)) (hn : n < 18446744073709551616) : Calls Tryd.prog 51 #[.int .u64 z] w (NEnd n 2 w) := by
  subst hz
  exact of_n n hn
set_option maxRecDepth 20000 in
set_option maxHeartbeats 1000000 in
theorem iof_p (n : Int) (h : 0 ≤ n) (h' : n < 9223372036854775808) (w : World) : Calls Tryd.prog 36 #[.int .i64 n] w (IEnd n 2 w) := by
  have B0 := below_a1 w (.cells #[.bool false, .slice none 0 0] 25)
  have kr := (Rx.new w (w.heap.size) (by simp))
  go_enter Tryd.func36, Tryd.ntmps36
  have kr0 := kr.1
  have kr1 := kr.2.1
  have kr2 := kr.2.2.1
  have kr3 := kr.2.2.2
  go_wp2_with fail
  refine (of_z _ n.natAbs ?_ ?_).mono ?_
  · first | omega | (rw [IntKind.wrap_u64]; unfold wrap64; omega)
  · omega
  clear kr0 kr1 kr2 kr3
  rintro e w1 ⟨v1, rfl, z1, bb⟩
  have kr := kr.below bb
  have B0 := B0.trans (bb.mono B0.size)
  clear bb
  have kr0 := kr.1
  have kr1 := kr.2.1
  have kr2 := kr.2.2.1
  have kr3 := kr.2.2.2
  go_wp2_with fail
  refine (signed_i false z1 n (by simp [sgn]; omega)).mono ?_
  clear kr0 kr1 kr2 kr3
  rintro e w2 ⟨vr, rfl, zr, bb⟩
  have kr := kr.below bb
  have B0 := B0.trans (bb.mono B0.size)
  clear bb
  obtain ⟨br, Ar, nr, cr, rfl, zr⟩ := zr.cells
  have kr0 := kr.1
  have kr1 := kr.2.1
  have kr2 := kr.2.2.1
  have kr3 := kr.2.2.2
  go_wp2
  refine bodyPost_ret (v := .agg #[.bool br, .slice Ar nr cr]) (by simp [results, Tryd.results36, go_sem, kr0, kr1]) rfl ⟨_, rfl, zr.ret kr _ _, below_ret B0 (by omega) _ _⟩
set_option maxRecDepth 20000 in
set_option maxHeartbeats 1000000 in
theorem iof_m (n : Int) (h : n < 0) (h' : -9223372036854775808 ≤ n) (w : World) : Calls Tryd.prog 36 #[.int .i64 n] w (IEnd n 2 w) := by
  have B0 := below_a1 w (.cells #[.bool false, .slice none 0 0] 25)
  have kr := (Rx.new w (w.heap.size) (by simp))
  go_enter Tryd.func36, Tryd.ntmps36
  have kr0 := kr.1
  have kr1 := kr.2.1
  have kr2 := kr.2.2.1
  have kr3 := kr.2.2.2
  go_wp2_with fail
  refine (of_z _ n.natAbs ?_ ?_).mono ?_
  · first | omega | (rw [IntKind.wrap_u64]; unfold wrap64; omega)
  · omega
  clear kr0 kr1 kr2 kr3
  rintro e w1 ⟨v1, rfl, z1, bb⟩
  have kr := kr.below bb
  have B0 := B0.trans (bb.mono B0.size)
  clear bb
  have kr0 := kr.1
  have kr1 := kr.2.1
  have kr2 := kr.2.2.1
  have kr3 := kr.2.2.2
  go_wp2_with fail
  refine (signed_i true z1 n (by simp [sgn]; omega)).mono ?_
  clear kr0 kr1 kr2 kr3
  rintro e w2 ⟨vr, rfl, zr, bb⟩
  have kr := kr.below bb
  have B0 := B0.trans (bb.mono B0.size)
  clear bb
  obtain ⟨br, Ar, nr, cr, rfl, zr⟩ := zr.cells
  have kr0 := kr.1
  have kr1 := kr.2.1
  have kr2 := kr.2.2.1
  have kr3 := kr.2.2.2
  go_wp2
  refine bodyPost_ret (v := .agg #[.bool br, .slice Ar nr cr]) (by simp [results, Tryd.results36, go_sem, kr0, kr1]) rfl ⟨_, rfl, zr.ret kr _ _, below_ret B0 (by omega) _ _⟩
theorem iof_i (n : Int) (h : -9223372036854775808 ≤ n) (h' : n < 9223372036854775808) (w : World) : Calls Tryd.prog 36 #[.int .i64 n] w (IEnd n 2 w) := by
  rcases Int.lt_or_le n 0 with h0 | h0
  · exact iof_m n h0 h w
  · exact iof_p n h0 h' w
/-- The decimal notation of an integer. -/
def zdec (z : Int) : List UInt8 := if z < 0 then 45 :: Lib.decDigits z.natAbs else Lib.decDigits z.natAbs
theorem bytes_ext {s t : ByteArray} (h : s.data.toList = t.data.toList) : s = t := by
  cases s; cases t
  simp only at h
  rw [Array.toList_inj.1 h]
theorem text_size {m k : Nat} (hm : m < Num.K ^ k) {t : ByteArray} (h : t.data.toList = Lib.decDigits m) : t.size ≤ 10 * k + 1 := by
  have h1 : t.size = (Lib.decDigits m).length := by rw [← h]; simp
  rw [h1]
  refine Txt.dec_length_le m _ (Nat.lt_of_lt_of_le hm ?_) (by omega)
  have h2 : Num.K ^ k ≤ (10 ^ 10) ^ k := Nat.pow_le_pow_left (by decide) k
  rw [← Nat.pow_mul] at h2
  exact Nat.le_trans h2 (Nat.pow_le_pow_right (by omega) (by omega))
set_option maxRecDepth 20000 in
set_option maxHeartbeats 1000000 in
theorem itext_m {w : World} (b : Bool) {A : Option Addr} {n c m k : Nat} (hm : Nm w (.slice A n c) m k) (hk : k ≤ 900) (ht : Tab w) (t : ByteArray) (h : t.data.toList = Lib.decDigits m) (hz : sgn b m < 0) : Calls Tryd.prog 32 #[.agg #[.bool b, .slice A n c]] w (StrEnd (⟨#[45]⟩ ++ t) w) := by
  have hts := text_size hm.lt h
  have H := Lib.hid h
  have HT := Lib.hid ht
  clear h ht
  obtain ⟨s, hs⟩ : ∃ s, s = sgI (sgn b m) := ⟨_, rfl⟩
  have hs0 : s < 0 := by have := sgI_cases (sgn b m); omega
  have Hs := Lib.hid hs.symm
  clear hs hz
  have B0 := below_a1 w (.cells #[.bool b, .slice A n c] 25)
  have hm := hm.below B0
  have ka := (Bx.new w (w.heap.size) (by simp) (.bool b) (.slice A n c))
  go_enter Tryd.func32, Tryd.ntmps32
  have ka0 := ka.1
  have ka1 := ka.2
  go_wp2_with fail
  refine (isign_i (hm.iv b) _ Hs.out).mono ?_
  clear ka0 ka1
  rintro e w1 ⟨rfl, bb⟩
  have hm := hm.below bb
  have ka := ka.below bb
  have B0 := B0.trans (bb.mono B0.size)
  clear bb
  have ka0 := ka.1
  have ka1 := ka.2
  go_wp2_with fail
  refine (text_n hm (by omega) (HT.out.below B0) t H.out).mono ?_
  clear ka0 ka1
  rintro e w2 ⟨rfl, bb⟩
  have hm := hm.below bb
  have ka := ka.below bb
  have B0 := B0.trans (bb.mono B0.size)
  clear bb
  go_wp2
  go_ret
  exact ⟨rfl, B0⟩
set_option maxRecDepth 20000 in
set_option maxHeartbeats 1000000 in
theorem itext_p {w : World} (b : Bool) {A : Option Addr} {n c m k : Nat} (hm : Nm w (.slice A n c) m k) (hk : k ≤ 900) (ht : Tab w) (t : ByteArray) (h : t.data.toList = Lib.decDigits m) (hz : 0 ≤ sgn b m) : Calls Tryd.prog 32 #[.agg #[.bool b, .slice A n c]] w (StrEnd (t) w) := by
  have hts := text_size hm.lt h
  have H := Lib.hid h
  have HT := Lib.hid ht
  clear h ht
  obtain ⟨s, hs⟩ : ∃ s, s = sgI (sgn b m) := ⟨_, rfl⟩
  have hs0 : 0 ≤ s := by have := sgI_cases (sgn b m); omega
  have Hs := Lib.hid hs.symm
  clear hs hz
  have B0 := below_a1 w (.cells #[.bool b, .slice A n c] 25)
  have hm := hm.below B0
  have ka := (Bx.new w (w.heap.size) (by simp) (.bool b) (.slice A n c))
  go_enter Tryd.func32, Tryd.ntmps32
  have ka0 := ka.1
  have ka1 := ka.2
  go_wp2_with fail
  refine (isign_i (hm.iv b) _ Hs.out).mono ?_
  clear ka0 ka1
  rintro e w1 ⟨rfl, bb⟩
  have hm := hm.below bb
  have ka := ka.below bb
  have B0 := B0.trans (bb.mono B0.size)
  clear bb
  have ka0 := ka.1
  have ka1 := ka.2
  go_wp2_with fail
  refine (text_n hm (by omega) (HT.out.below B0) t H.out).mono ?_
  clear ka0 ka1
  rintro e w2 ⟨rfl, bb⟩
  have hm := hm.below bb
  have ka := ka.below bb
  have B0 := B0.trans (bb.mono B0.size)
  clear bb
  go_wp2
  go_ret
  exact ⟨rfl, B0⟩
theorem itext_i {w : World} {v : Value} {z : Int} {k : Nat} (h : Iv w v z k) (hk : k ≤ 900) (ht : Tab w) (t : ByteArray) (h' : t.data.toList = zdec z) : Calls Tryd.prog 32 #[v] w (StrEnd t w) := by
  obtain ⟨b, A, n, c, m, rfl, hm, rfl⟩ := h
  have e : (sgn b m).natAbs = m := by cases b <;> simp [sgn]
  unfold zdec at h'
  rw [e] at h'
  by_cases hz : sgn b m < 0
  · rw [if_pos hz] at h'
    obtain ⟨u, hu⟩ : ∃ u : ByteArray, u.data.toList = Lib.decDigits m := ⟨⟨(Lib.decDigits m).toArray⟩, rfl⟩
    have e2 : (⟨#[45]⟩ : ByteArray) ++ u = t := bytes_ext (by rw [h', ← hu]; simp)
    rw [← e2]
    exact itext_m b hm hk ht u hu hz
  · rw [if_neg hz] at h'
    exact itext_p b hm hk ht t h' (by omega)
end Go.Proofs.YthcoemkbdllcfaaDoor
