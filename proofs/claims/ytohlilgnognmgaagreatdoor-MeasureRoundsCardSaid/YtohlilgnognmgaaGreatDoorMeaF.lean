/-
  The walks of measure's integral, formatFraction, formatDecimal and formatValue.
-/
import Derived.Test.YtohlilgnognmgaaGreatDoorMeaQ
namespace Go.Proofs.YtohlilgnognmgaaGreatDoor
open Go.RowKit Mea
attribute [local go_sem ↓] Go.wp_at_zero Go.wp_at_succ
set_option linter.unusedVariables false

set_option maxRecDepth 20000 in
set_option maxHeartbeats 2000000 in
theorem integral_q (n : Int) (h1 : -9223372036854775808 ≤ n) (h2 : n < 9223372036854775808) (w : World) : Calls Tryz.prog 30 #[.int .i64 n] w (QEnd ((n : Int) : Rat) 2 2 w) := by
  have hq : ((n : Int) : Rat) / ((1 : Int) : Rat) = ((n : Int) : Rat) := by grind
  have H1 := Lib.hid h1
  clear h1
  have H2 := Lib.hid h2
  clear h2
  have HQ := Lib.hid hq
  clear hq
  have B0 := below_a1 w (.cells #[.bool false, .slice none 0 0, .slice none 0 0] 27)
  have kr := (Rq.new w (w.heap.size) (by simp))
  go_enter Tryz.func30, Tryz.ntmps30
  have kr_0 := kr.1
  have kr_1 := kr.2.1
  have kr_2 := kr.2.2.1
  have kr_3 := kr.2.2.2.1
  have kr_4 := kr.2.2.2.2.1
  have kr_5 := kr.2.2.2.2.2
  go_wp2_with fail
  refine (qof_p n 1 H1.out H2.out (by decide) (by decide) _ (by decide) _ HQ.out).mono ?_
  clear kr_0 kr_1 kr_2 kr_3 kr_4 kr_5
  rintro e w1 ⟨br, Ar, nr, cr, Br, mr, dr, rfl, zr, bb⟩
  have kr := kr.below bb
  have B0 := B0.trans (bb.mono B0.size)
  clear bb
  have zr_w1 := zr
  have lkr_w1 := kr.apart.1
  have B0_w1 := B0
  have kr_w1 := kr
  have kr_w1_0 := kr.1
  have kr_w1_1 := kr.2.1
  have kr_w1_2 := kr.2.2.1
  have kr_w1_3 := kr.2.2.2.1
  have kr_w1_4 := kr.2.2.2.2.1
  have kr_w1_5 := kr.2.2.2.2.2
  have kr := kr.below (below_alloc w1 (.cells #[.bool br, .slice Ar nr cr, .slice Br mr dr] 27))
  have zr := zr.below (below_alloc w1 (.cells #[.bool br, .slice Ar nr cr, .slice Br mr dr] 27))
  have kl := Bq.new w1 (w1.heap.size) (by simp) (.bool br) (.slice Ar nr cr) (.slice Br mr dr)
  have B0 := B0.trans ((below_alloc w1 (.cells #[.bool br, .slice Ar nr cr, .slice Br mr dr] 27)).mono B0.size)
  have KX := (kr_w1.written (.bool br) (.slice Ar nr cr) (.slice Br mr dr)).later (.cells #[.bool br, .slice Ar nr cr, .slice Br mr dr] 27)
  have kx0 := KX.c0
  have kx1 := KX.c1
  have kx2 := KX.c2
  have BX := (below_ret3 B0_w1 (Nat.le_refl w.heap.size) (.bool br) (.slice Ar nr cr) (.slice Br mr dr)).trans ((below_alloc _ (.cells #[.bool br, .slice Ar nr cr, .slice Br mr dr] 27)).mono (below_ret3 B0_w1 (Nat.le_refl w.heap.size) (.bool br) (.slice Ar nr cr) (.slice Br mr dr)).size)
  have ZX := (zr_w1.ret3 kr_w1 (.bool br) (.slice Ar nr cr) (.slice Br mr dr)).later (.cells #[.bool br, .slice Ar nr cr, .slice Br mr dr] 27)
  have kl_0 := kl.c0
  have kl_1 := kl.c1
  have kl_2 := kl.c2
  have kr_0 := kr.1
  have kr_1 := kr.2.1
  have kr_2 := kr.2.2.1
  have kr_3 := kr.2.2.2.1
  have kr_4 := kr.2.2.2.2.1
  have kr_5 := kr.2.2.2.2.2
  go_wp2
  refine bodyPost_ret (v := .agg #[.bool br, .slice Ar nr cr, .slice Br mr dr]) (by simp [results, Tryz.results30, go_sem, kx0, kx1, kx2]) rfl ⟨_, _, _, _, _, _, _, rfl, ZX, BX⟩
theorem itoa_s (n : Nat) (hn : n ≤ 9223372036854775807) (w : World) (ht : Tab w) : Calls Tryz.prog 96 #[.int .i64 (n : Int)] w (StrEnd (ofL (digN n)) w) := itoa_walk n w hn ht
theorem trim_s (s : ByteArray) (hs : s.size ≤ 100000) (w : World) : Calls Tryz.prog 97 #[.string s, .string ⟨#[48]⟩] w (StrEnd (ofL (Lib.trimRightB s.data.toList 48)) w) :=
  (Tryz.strings_TrimRight_one s 48 (by decide) w (by omega)).mono fun _ _ ⟨h1, h2⟩ => ⟨h1, h2 ▸ Below.refl _ _⟩
theorem dec_len20 (n : Nat) (h : n ≤ 9999999999) : (ofL (digN n)).size ≤ 1000 := by
  rw [ofL_size]
  exact Nat.le_trans (Txt.dec_length_le n 10 (by omega) (by omega)) (by omega)
theorem cat_list (a b : ByteArray) : (a ++ b).data.toList = a.data.toList ++ b.data.toList := by simp
set_option maxRecDepth 20000 in
set_option maxHeartbeats 2000000 in
theorem ffrac_0 (n p d : Int) (x u v r : ByteArray) (w : World) (ht : Tab w) (hx : x.size ≤ 1000) (hu : u.size ≤ 1000) (hv : v.size ≤ 1000) (hn : (n == 0) = true)
    (h1 : ∀ w, Tab w → Calls Tryz.prog 96 #[.int .i64 n] w (StrEnd x w))
    (h2 : ∀ w, Tab w → Calls Tryz.prog 96 #[.int .i64 p] w (StrEnd u w))
    (h3 : ∀ w, Tab w → Calls Tryz.prog 96 #[.int .i64 d] w (StrEnd v w))
    (hr : u ++ ⟨#[47]⟩ ++ v = r) : Calls Tryz.prog 65 #[.int .i64 n, .int .i64 p, .int .i64 d] w (StrEnd r w) := by
  have HT := Lib.hid ht
  clear ht
  have H1 := Lib.hid h1
  clear h1
  have H2 := Lib.hid h2
  clear h2
  have H3 := Lib.hid h3
  clear h3
  have HR := Lib.hid hr
  clear hr
  have B0 := Below.refl w.heap.size w
  go_enter Tryz.func65, Tryz.ntmps65
  go_wp2_with fail
  refine (H2.out _ (HT.out.below B0)).mono ?_
  rintro e w1 ⟨rfl, bb⟩
  have B0 := B0.trans (bb.mono B0.size)
  clear bb
  go_wp2_with fail
  refine (H3.out _ (HT.out.below B0)).mono ?_
  rintro e w2 ⟨rfl, bb⟩
  have B0 := B0.trans (bb.mono B0.size)
  clear bb
  go_wp2
  go_ret
  rw [← HR.out]
  exact ⟨rfl, B0⟩
set_option maxRecDepth 20000 in
set_option maxHeartbeats 2000000 in
theorem ffrac_n (n p d : Int) (x u v r : ByteArray) (w : World) (ht : Tab w) (hx : x.size ≤ 1000) (hu : u.size ≤ 1000) (hv : v.size ≤ 1000) (hn : (n == 0) = false)
    (h1 : ∀ w, Tab w → Calls Tryz.prog 96 #[.int .i64 n] w (StrEnd x w))
    (h2 : ∀ w, Tab w → Calls Tryz.prog 96 #[.int .i64 p] w (StrEnd u w))
    (h3 : ∀ w, Tab w → Calls Tryz.prog 96 #[.int .i64 d] w (StrEnd v w))
    (hr : x ++ ⟨#[32]⟩ ++ (u ++ ⟨#[47]⟩ ++ v) = r) : Calls Tryz.prog 65 #[.int .i64 n, .int .i64 p, .int .i64 d] w (StrEnd r w) := by
  have HT := Lib.hid ht
  clear ht
  have H1 := Lib.hid h1
  clear h1
  have H2 := Lib.hid h2
  clear h2
  have H3 := Lib.hid h3
  clear h3
  have HR := Lib.hid hr
  clear hr
  have B0 := Below.refl w.heap.size w
  go_enter Tryz.func65, Tryz.ntmps65
  go_wp2_with fail
  refine (H2.out _ (HT.out.below B0)).mono ?_
  rintro e w1 ⟨rfl, bb⟩
  have B0 := B0.trans (bb.mono B0.size)
  clear bb
  go_wp2_with fail
  refine (H3.out _ (HT.out.below B0)).mono ?_
  rintro e w2 ⟨rfl, bb⟩
  have B0 := B0.trans (bb.mono B0.size)
  clear bb
  go_wp2_with fail
  refine (H1.out _ (HT.out.below B0)).mono ?_
  rintro e w3 ⟨rfl, bb⟩
  have B0 := B0.trans (bb.mono B0.size)
  clear bb
  go_wp2
  go_ret
  rw [← HR.out]
  exact ⟨rfl, B0⟩
theorem ffrac_walk (n p d : Nat) (w : World) (ht : Tab w) (hn : n ≤ 9999999) (hp : p ≤ 9999999) (hd : d ≤ 9999999) : Calls Tryz.prog 65 #[.int .i64 (n : Int), .int .i64 (p : Int), .int .i64 (d : Int)] w (StrEnd (ofL (fFrac n p d)) w) := by
  have i : ∀ m : Nat, m ≤ 9999999 → ∀ w, Tab w → Calls Tryz.prog 96 #[.int .i64 (m : Int)] w (StrEnd (ofL (digN m)) w) := fun m hm w ht => itoa_s m (by omega) w ht
  by_cases h0 : n = 0
  · refine ffrac_0 n p d _ _ _ _ w ht (dec_len20 n (by omega)) (dec_len20 p (by omega)) (dec_len20 d (by omega)) (by simp [h0]) (i n hn) (i p hp) (i d hd) (bytes_ext ?_)
    simp [ofL_data, fFrac, h0]
  · refine ffrac_n n p d _ _ _ _ w ht (dec_len20 n (by omega)) (dec_len20 p (by omega)) (dec_len20 d (by omega)) (by rw [beq_eq_false_iff_ne]; omega) (i n hn) (i p hp) (i d hd) (bytes_ext ?_)
    simp [ofL_data, fFrac, h0]
set_option maxRecDepth 20000 in
set_option maxHeartbeats 2000000 in
theorem fdec_0 (n p : Int) (x : ByteArray) (w : World) (ht : Tab w) (hp : (p == 0) = true)
    (h1 : ∀ w, Tab w → Calls Tryz.prog 96 #[.int .i64 n] w (StrEnd x w)) : Calls Tryz.prog 64 #[.int .i64 n, .int .i64 p] w (StrEnd x w) := by
  have HT := Lib.hid ht
  clear ht
  have H1 := Lib.hid h1
  clear h1
  have B0 := Below.refl w.heap.size w
  go_enter Tryz.func64, Tryz.ntmps64
  go_wp2_with fail
  refine (H1.out _ (HT.out.below B0)).mono ?_
  rintro e w1 ⟨rfl, bb⟩
  have B0 := B0.trans (bb.mono B0.size)
  clear bb
  go_wp2
  go_ret
  exact ⟨rfl, B0⟩
set_option maxRecDepth 20000 in
set_option maxHeartbeats 2000000 in
theorem fdec_n (n p p' : Int) (x y z u r : ByteArray) (w : World) (ht : Tab w) (hp : (p == 0) = false) (hw : IntKind.i64.wrap (10000 + p) = p') (hx : x.size ≤ 1000) (hy : (1 : Int) ≤ (y.size : Int)) (hu : u.size ≤ 1000) (hz : y.extract 1 y.size = z)
    (h1 : ∀ w, Tab w → Calls Tryz.prog 96 #[.int .i64 n] w (StrEnd x w))
    (h2 : ∀ w, Tab w → Calls Tryz.prog 96 #[.int .i64 p'] w (StrEnd y w))
    (h3 : ∀ w, Calls Tryz.prog 97 #[.string z, .string ⟨#[48]⟩] w (StrEnd u w))
    (hr : x ++ ⟨#[46]⟩ ++ u = r) : Calls Tryz.prog 64 #[.int .i64 n, .int .i64 p] w (StrEnd r w) := by
  have HT := Lib.hid ht
  clear ht
  have H1 := Lib.hid h1
  clear h1
  have H2 := Lib.hid h2
  clear h2
  have H3 := Lib.hid h3
  clear h3
  have HR := Lib.hid hr
  clear hr
  have B0 := Below.refl w.heap.size w
  go_enter Tryz.func64, Tryz.ntmps64
  go_wp2_with fail
  refine (H2.out _ (HT.out.below B0)).mono ?_
  rintro e w1 ⟨rfl, bb⟩
  have B0 := B0.trans (bb.mono B0.size)
  clear bb
  go_wp2_with fail
  refine (H1.out _ (HT.out.below B0)).mono ?_
  rintro e w2 ⟨rfl, bb⟩
  have B0 := B0.trans (bb.mono B0.size)
  clear bb
  go_wp2_with fail
  refine (H3.out _).mono ?_
  rintro e w3 ⟨rfl, bb⟩
  have B0 := B0.trans (bb.mono B0.size)
  clear bb
  go_wp2
  go_ret
  rw [← HR.out]
  exact ⟨rfl, B0⟩
theorem fdec_walk (n p : Nat) (w : World) (ht : Tab w) (hn : n ≤ 9999999) (hp : p ≤ 9999) : Calls Tryz.prog 64 #[.int .i64 (n : Int), .int .i64 (p : Int)] w (StrEnd (ofL (fDec n p)) w) := by
  have i : ∀ m : Nat, m ≤ 9999999 → ∀ w, Tab w → Calls Tryz.prog 96 #[.int .i64 (m : Int)] w (StrEnd (ofL (digN m)) w) := fun m hm w ht => itoa_s m (by omega) w ht
  by_cases h0 : p = 0
  · have := fdec_0 n p (ofL (digN n)) w ht (by simp [h0]) (i n hn)
    simpa only [fDec, h0, if_true] using this
  · have hl : (ofL (digN (10000 + p))).size ≤ 1000 := dec_len20 _ (by omega)
    have h4 : 1 ≤ (ofL (digN (10000 + p))).size := by
      rw [ofL_size]
      exact List.length_pos_iff.2 (Txt.dec_ne (10000 + p))
    have hz : (ofL (digN (10000 + p))).extract 1 (ofL (digN (10000 + p))).size = ofL ((digN (10000 + p)).drop 1) := bytes_ext (by rw [Lib.extract_to_end]; rfl)
    have hzl : ((digN (10000 + p)).drop 1).length ≤ 1000 := by
      rw [List.length_drop]; rw [ofL_size] at hl; omega
    have hu : (ofL (Lib.trimRightB ((digN (10000 + p)).drop 1) 48)).size ≤ 1000 := by
      obtain ⟨k, hk⟩ := trim_split ((digN (10000 + p)).drop 1)
      have := congrArg List.length hk
      rw [List.length_append] at this
      rw [ofL_size]; omega
    refine fdec_n n p ((10000 + p : Nat) : Int) _ _ _ _ _ w ht (by rw [beq_eq_false_iff_ne]; omega) (by rw [IntKind.wrap_i64]; omega) (dec_len20 n (by omega)) (by omega) hu hz (i n hn) (i (10000 + p) (by omega)) (fun w => trim_s _ (by rw [ofL_size]; omega) w) (bytes_ext ?_)
    simp [ofL_data, fDec, h0]
end Go.Proofs.YtohlilgnognmgaaGreatDoor
