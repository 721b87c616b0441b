/-
  The walks of garmentref03.Text, slash and Parse.
-/
import Derived.Test.YtfdildganfjahaaGreatDoorRRat
import Derived.Test.YtfdildganfjahaaGreatDoorRatT
import Derived.Test.YtfdildganfjahaaGreatDoorParseC
namespace Go.Proofs.YtfdildganfjahaaGreatDoor
open Go.RowKit
attribute [local go_sem ↓] Go.wp_at_zero Go.wp_at_succ
set_option linter.unusedVariables false

theorem Nz.tight {w : World} {v : Value} {m k : Nat} (h : Nz w v m k) (hm : m < Num.K ^ 60) : Nz w v m 60 := by
  obtain ⟨l, h1, h2, h3, h4⟩ := h
  exact ⟨l, h1, h2, h3, len_of h2 h3 hm⟩
theorem rgcd_s {w : World} {va vb : Value} {a b k j : Nat} (ha : Nz w va a k) (hb : Nz w vb b j) (h : a < Num.K ^ 60) (h' : b < Num.K ^ 60) : Calls Tryz.prog 81 #[va, vb] w (NEnd (Nat.gcd a b) 60 w) := rgcd_n (ha.tight h).nm (hb.tight h').nm (by decide) (by decide)
theorem ten500 : 10 ^ 500 ≤ Num.K ^ 60 := by rw [Num.K_eq]; decide +kernel
theorem small_dec (n : Nat) (h : (Lib.decDigits n).length ≤ 500) : n < Num.K ^ 60 := by
  have h1 := decVal_lt (Lib.decDigits n) (fun c hc => by
    obtain ⟨j, hj⟩ := List.getElem?_of_mem hc
    exact (isNum_dgt (Txt.dec_isNum n) hj).2)
  rw [Txt.read_dec] at h1
  exact Nat.lt_of_lt_of_le h1 (Nat.le_trans (Nat.pow_le_pow_right (by decide) h) ten500)
set_option maxRecDepth 20000 in
set_option maxHeartbeats 2000000 in
theorem rslash_hit (s : ByteArray) (i : Nat) (w : World) (hs : s.size ≤ 100000) (hi : i < s.size) (h1 : s.data.toList[i]? = some (47 : UInt8)) (h2 : ∀ k : Nat, k < i → s.data.toList[k]? ≠ some (47 : UInt8)) : Calls Tryz.prog 78 #[.string s] w (I64End (i : Int) w) := by
  have HB0 := Lib.hid (Below.refl w.heap.size w)
  have H1 := Lib.hid h1
  have H2 := Lib.hid h2
  clear h1 h2
  go_enter Tryz.func78, Tryz.ntmps78
  go_wp2
  go_loop [3] (fun x => ∃ k : Nat, k ≤ i ∧ x = .int .i64 k) (fun x => s.size - (intOf x).toNat)
  case atStart => exact ⟨0, Nat.zero_le _, rfl⟩
  case round =>
    obtain ⟨k, hk, rfl⟩ := hrel
    have hlt : k < s.size := by omega
    have hb := byte_at s k hlt
    by_cases e : k = i
    · subst e
      have h47 : ((s[k].toNat : Int) == 47) = true := by
        have h := H1.out
        rw [hb] at h
        injection h with h
        rw [h]; rfl
      clear hb
      go_wp2
      go_ret
      exact ⟨rfl, HB0.out⟩
    · have h47 : ((s[k].toNat : Int) == 47) = false := by
        rw [beq_eq_false_iff_ne]
        intro h
        refine H2.out k (by omega) ?_
        rw [hb]
        exact congrArg some (UInt8.toNat_inj.mp (by show s[k].toNat = 47; omega))
      clear hb
      go_wp2
      go_round
      case rel => exact ⟨k + 1, by omega, by go_num⟩
      case measure => simp [intOf] <;> omega
set_option maxRecDepth 20000 in
set_option maxHeartbeats 2000000 in
theorem rslash_miss (s : ByteArray) (w : World) (hs : s.size ≤ 100000) (h2 : ∀ k : Nat, s.data.toList[k]? ≠ some (47 : UInt8)) : Calls Tryz.prog 78 #[.string s] w (I64End (s.size : Int) w) := by
  have HB0 := Lib.hid (Below.refl w.heap.size w)
  have H2 := Lib.hid h2
  clear h2
  go_enter Tryz.func78, Tryz.ntmps78
  go_wp2
  go_loop [3] (fun x => ∃ k : Nat, k ≤ s.size ∧ x = .int .i64 k) (fun x => s.size - (intOf x).toNat)
  case atStart => exact ⟨0, Nat.zero_le _, rfl⟩
  case round =>
    obtain ⟨k, hk, rfl⟩ := hrel
    by_cases hlt : k < s.size
    · have hb := byte_at s k hlt
      have h47 : ((s[k].toNat : Int) == 47) = false := by
        rw [beq_eq_false_iff_ne]
        intro h
        refine H2.out k ?_
        rw [hb]
        exact congrArg some (UInt8.toNat_inj.mp (by show s[k].toNat = 47; omega))
      clear hb
      go_wp2
      go_round
      case rel => exact ⟨k + 1, by omega, by go_num⟩
      case measure => simp [intOf] <;> omega
    · go_wp2
      go_ret
      exact ⟨rfl, HB0.out⟩
set_option maxRecDepth 20000 in
set_option maxHeartbeats 2000000 in
theorem rqtext_w {w : World} {va : Value} {x : Rat} {k j : Nat} (ha : Qv w va x k j) (hk : k ≤ 90) (hj : j ≤ 90) (hd : x.den = 1) (t : ByteArray) (hx : t.data.toList = zdec x.num) : Calls Tryz.prog 33 #[va] w (StrEnd t w) := by
  obtain ⟨ba, Aa, na, ca, Ba, ma, da, rfl, _, _, _⟩ := ha.named
  have hd : cmpI x.den 1 = 0 := by rw [hd]; rfl
  have HD := Lib.hid hd
  clear hd
  have HX := Lib.hid hx
  clear hx
  have B0 := below_a1 w (.cells #[.bool ba, .slice Aa na ca, .slice Ba ma da] 27)
  have ha := ha.below B0
  have ka := (Bq.new w (w.heap.size) (by simp) (.bool ba) (.slice Aa na ca) (.slice Ba ma da))
  go_enter Tryz.func33, Tryz.ntmps33
  have ka_0 := ka.c0
  have ka_1 := ka.c1
  have ka_2 := ka.c2
  go_wp2_with fail
  refine (rqnorm_q ha (by omega) (by omega)).mono ?_
  clear ka_0 ka_1 ka_2
  rintro e w1 ⟨b1, A1, n1, c1, B1, m1, d1, rfl, z1, bb⟩
  have ha := ha.below bb
  have ka := ka.below bb
  have B0 := B0.trans (bb.mono B0.size)
  clear bb
  have z1 := z1.below (below_alloc w1 (.cells #[.bool b1, .slice A1 n1 c1, .slice B1 m1 d1] 27))
  have k1 := Bq.new w1 (w1.heap.size) (by simp) (.bool b1) (.slice A1 n1 c1) (.slice B1 m1 d1)
  have B0 := B0.trans ((below_alloc w1 (.cells #[.bool b1, .slice A1 n1 c1, .slice B1 m1 d1] 27)).mono B0.size)
  have zn := z1.parts.1
  have zd := z1.parts.2
  go_wp2_with fail
  have k1 := k1.drew
  have zn := zn.drew
  have zd := zd.drew
  have B0 := b_drew B0
  go_region_held3 (fun w' => w'.cell? ⟨w1.heap.size, 0, none⟩ = some (.bool b1) ∧ w'.cell? ⟨w1.heap.size, 1, none⟩ = some (.slice A1 n1 c1) ∧ w'.cell? ⟨w1.heap.size, 2, none⟩ = some (.slice B1 m1 d1)) (first | with_reducible exact ⟨k1.c0, k1.c1, k1.c2⟩)
    (first
      | (go_at_call 62; (with_reducible refine (rof_z' 1 1 rfl ?_).mono ?_); omega; rintro e w2 ⟨v2, rfl, z2, bb⟩; have k1 := k1.below bb; have zn := zn.below bb; have zd := zd.below bb; have B0 := B0.trans (bb.mono B0.size); clear bb; obtain ⟨A2, n2, c2, rfl, _, _⟩ := z2.nm.form)
      | (go_at_call 69; (with_reducible refine (rcmp_n zd.nm z2.nm ?_ ?_ _ HD.out).mono ?_); omega; omega; rintro e w3 ⟨rfl, bb⟩; have k1 := k1.below bb; have zn := zn.below bb; have zd := zd.below bb; have z2 := z2.below bb; have B0 := B0.trans (bb.mono B0.size); clear bb))
  have k1_0 := k1.c0
  have k1_1 := k1.c1
  have k1_2 := k1.c2
  go_wp2_with fail
  refine (ritext_i zn.iv (by omega) t HX.out).mono ?_
  clear k1_0 k1_1 k1_2
  rintro e w10 ⟨rfl, bb⟩
  have k1 := k1.below bb
  have zn := zn.below bb
  have zd := zd.below bb
  have B0 := B0.trans (bb.mono B0.size)
  clear bb
  go_wp2
  go_ret
  exact ⟨rfl, B0⟩
set_option maxRecDepth 20000 in
set_option maxHeartbeats 2000000 in
theorem rqtext_f {w : World} {va : Value} {x : Rat} {k j : Nat} (ha : Qv w va x k j) (hk : k ≤ 90) (hj : j ≤ 90) (o : Int) (ho : cmpI x.den 1 = o) (ho0 : (o == 0) = false) (t u v : ByteArray) (hu : u.data.toList = zdec x.num) (hv : v.data.toList = Lib.decDigits x.den) (hx : u ++ ⟨#[47]⟩ ++ v = t) : Calls Tryz.prog 33 #[va] w (StrEnd t w) := by
  obtain ⟨ba, Aa, na, ca, Ba, ma, da, rfl, _, _, _⟩ := ha.named
  have HO := Lib.hid ho
  clear ho
  have HU := Lib.hid hu
  clear hu
  have HV := Lib.hid hv
  clear hv
  have HX := Lib.hid hx
  clear hx
  have B0 := below_a1 w (.cells #[.bool ba, .slice Aa na ca, .slice Ba ma da] 27)
  have ha := ha.below B0
  have ka := (Bq.new w (w.heap.size) (by simp) (.bool ba) (.slice Aa na ca) (.slice Ba ma da))
  go_enter Tryz.func33, Tryz.ntmps33
  have ka_0 := ka.c0
  have ka_1 := ka.c1
  have ka_2 := ka.c2
  go_wp2_with fail
  refine (rqnorm_q ha (by omega) (by omega)).mono ?_
  clear ka_0 ka_1 ka_2
  rintro e w1 ⟨b1, A1, n1, c1, B1, m1, d1, rfl, z1, bb⟩
  have ha := ha.below bb
  have ka := ka.below bb
  have B0 := B0.trans (bb.mono B0.size)
  clear bb
  have z1 := z1.below (below_alloc w1 (.cells #[.bool b1, .slice A1 n1 c1, .slice B1 m1 d1] 27))
  have k1 := Bq.new w1 (w1.heap.size) (by simp) (.bool b1) (.slice A1 n1 c1) (.slice B1 m1 d1)
  have B0 := B0.trans ((below_alloc w1 (.cells #[.bool b1, .slice A1 n1 c1, .slice B1 m1 d1] 27)).mono B0.size)
  have zn := z1.parts.1
  have zd := z1.parts.2
  go_wp2_with fail
  have k1 := k1.drew
  have zn := zn.drew
  have zd := zd.drew
  have B0 := b_drew B0
  go_region_held3 (fun w' => w'.cell? ⟨w1.heap.size, 0, none⟩ = some (.bool b1) ∧ w'.cell? ⟨w1.heap.size, 1, none⟩ = some (.slice A1 n1 c1) ∧ w'.cell? ⟨w1.heap.size, 2, none⟩ = some (.slice B1 m1 d1)) (first | with_reducible exact ⟨k1.c0, k1.c1, k1.c2⟩)
    (first
      | (go_at_call 62; (with_reducible refine (rof_z' 1 1 rfl ?_).mono ?_); omega; rintro e w2 ⟨v2, rfl, z2, bb⟩; have k1 := k1.below bb; have zn := zn.below bb; have zd := zd.below bb; have B0 := B0.trans (bb.mono B0.size); clear bb; obtain ⟨A2, n2, c2, rfl, _, _⟩ := z2.nm.form)
      | (go_at_call 69; (with_reducible refine (rcmp_n zd.nm z2.nm ?_ ?_ _ HO.out).mono ?_); omega; omega; rintro e w3 ⟨rfl, bb⟩; have k1 := k1.below bb; have zn := zn.below bb; have zd := zd.below bb; have z2 := z2.below bb; have B0 := B0.trans (bb.mono B0.size); clear bb))
  have hus : u.size ≤ 100000 := by
    obtain ⟨b, A, n, c, m, e, hm, hz, _⟩ := zn
    have h1 := zdec_size (z := x.num) hm.nm.lt (by rw [hz]; exact RatN.sgn_abs _ _) HU.out
    omega
  have hvs : v.size ≤ 100000 := by
    have h1 := text_size zd.nm.lt HV.out
    omega
  go_wp2_with fail
  have k1 := k1.drew
  have zn := zn.drew
  have zd := zd.drew
  have B0 := b_drew B0
  have k1_0 := k1.c0
  have k1_1 := k1.c1
  have k1_2 := k1.c2
  go_region_with (first
      | (go_at_call 70; (with_reducible refine (ritext_i zn.iv ?_ u HU.out).mono ?_); omega; rintro e w10 ⟨rfl, bb⟩; have k1 := k1.below bb; have zn := zn.below bb; have zd := zd.below bb; have B0 := B0.trans (bb.mono B0.size); clear bb; have k1_0 := k1.c0; have k1_1 := k1.c1; have k1_2 := k1.c2)
      | (go_at_call 71; (with_reducible refine (rtext_n zd.nm ?_ v HV.out).mono ?_); omega; rintro e w11 ⟨rfl, bb⟩; have k1 := k1.below bb; have zn := zn.below bb; have zd := zd.below bb; have B0 := B0.trans (bb.mono B0.size); clear bb; have k1_0 := k1.c0; have k1_1 := k1.c1; have k1_2 := k1.c2))
  all_goals go_wp2
  all_goals go_ret
  all_goals rw [← HX.out]
  all_goals exact ⟨rfl, B0⟩
theorem rqtext_q {w : World} {va : Value} {x : Rat} {k j : Nat} (ha : Qv w va x k j) (hk : k ≤ 90) (hj : j ≤ 90) (t : ByteArray) (hx : t.data.toList = RatN.qdec x) : Calls Tryz.prog 33 #[va] w (StrEnd t w) := by
  by_cases h1 : x.den = 1
  · exact rqtext_w ha hk hj h1 t (by rw [hx]; simp [RatN.qdec, h1])
  · obtain ⟨o, ho, ho0⟩ : ∃ o, cmpI x.den 1 = o ∧ (o == 0) = false := ⟨_, rfl, by have := cmpI_cases x.den 1; rw [beq_eq_false_iff_ne]; omega⟩
    refine rqtext_f ha hk hj o ho ho0 t ⟨(zdec x.num).toArray⟩ ⟨(Lib.decDigits x.den).toArray⟩ rfl rfl (bytes_ext ?_)
    rw [hx]
    simp [RatN.qdec, h1]
set_option maxRecDepth 20000 in
set_option maxHeartbeats 2000000 in
theorem rqparse_e (s : ByteArray) (w : World) (i : Nat) (hs : s.size ≤ 100000) (hi : i ≤ s.size) (hc : ∀ w, Calls Tryz.prog 78 #[.string s] w (I64End (i : Int) w)) (p r : ByteArray) (hpe : s.extract 0 i = p) (hre : s.extract (i + 1) s.size = r) (code : Int) (h0 : code ≠ 0) (hp : ∀ w, Calls Tryz.prog 79 #[.string p] w (PErr code w)) : Calls Tryz.prog 35 #[.string s] w (PQErr code w) := by
  have c1 : (0 : Int) ≤ (i : Int) := by omega
  have c2 : (i : Int) ≤ (s.size : Int) := by omega
  have HPE := Lib.hid hpe
  have HRE := Lib.hid hre
  clear hpe hre
  have hb : (code != 0) = true := by simpa using h0
  clear h0
  have HC := Lib.hid hc
  clear hc
  have HP := Lib.hid hp
  clear hp
  have B0 := below_a1 w (.cells #[.bool false, .slice none 0 0, .slice none 0 0] 27)
  have kr := (Rq.new w (w.heap.size) (by simp))
  go_enter Tryz.func35, Tryz.ntmps35
  have kr_0 := kr.1
  have kr_1 := kr.2.1
  have kr_2 := kr.2.2.1
  have kr_3 := kr.2.2.2.1
  have kr_4 := kr.2.2.2.2.1
  have kr_5 := kr.2.2.2.2.2
  go_wp2_with fail
  refine (HC.out _).mono ?_
  clear kr_0 kr_1 kr_2 kr_3 kr_4 kr_5
  rintro e w1 ⟨rfl, bb⟩
  have kr := kr.below bb
  have B0 := B0.trans (bb.mono B0.size)
  clear bb
  have kr_0 := kr.1
  have kr_1 := kr.2.1
  have kr_2 := kr.2.2.1
  have kr_3 := kr.2.2.2.1
  have kr_4 := kr.2.2.2.2.1
  have kr_5 := kr.2.2.2.2.2
  go_wp2_with fail
  clear kr_0 kr_1 kr_2 kr_3 kr_4 kr_5
  first | rw [HPE.out] | (simp only [Int.toNat_natCast]; rw [HPE.out])
  refine (HP.out _).mono ?_
  rintro e w2 ⟨rfl, bb⟩
  have kr := kr.below bb
  have B0 := B0.trans (bb.mono B0.size)
  clear bb
  have lkr_w2 := kr.apart.1
  have B0_w2 := B0
  have kr_w2 := kr
  have kr_w2_0 := kr.1
  have kr_w2_1 := kr.2.1
  have kr_w2_2 := kr.2.2.1
  have kr_w2_3 := kr.2.2.2.1
  have kr_w2_4 := kr.2.2.2.2.1
  have kr_w2_5 := kr.2.2.2.2.2
  have kr := kr.below (below_alloc w2 (.cells #[.bool false, .slice none 0 0] 25))
  have kn := Bx.new w2 (w2.heap.size) (by simp) (.bool false) (.slice none 0 0)
  have B0 := B0.trans ((below_alloc w2 (.cells #[.bool false, .slice none 0 0] 25)).mono B0.size)
  have KX := (kr_w2.written (.bool false) (.slice none 0 0) (.slice none 0 0)).later (.cells #[.bool false, .slice none 0 0] 25)
  have kx0 := KX.c0
  have kx1 := KX.c1
  have kx2 := KX.c2
  have BX := (below_ret3 B0_w2 (Nat.le_refl w.heap.size) (.bool false) (.slice none 0 0) (.slice none 0 0)).trans ((below_alloc _ (.cells #[.bool false, .slice none 0 0] 25)).mono (below_ret3 B0_w2 (Nat.le_refl w.heap.size) (.bool false) (.slice none 0 0) (.slice none 0 0)).size)
  have kn_0 := kn.c0
  have kn_1 := kn.c1
  have kr_0 := kr.1
  have kr_1 := kr.2.1
  have kr_2 := kr.2.2.1
  have kr_3 := kr.2.2.2.1
  have kr_4 := kr.2.2.2.2.1
  have kr_5 := kr.2.2.2.2.2
  go_wp2
  refine bodyPost_ret (v := .tuple #[.agg #[.bool false, .slice none 0 0, .slice none 0 0], .int .i64 code]) (by simp [results, Tryz.results35, go_sem, kx0, kx1, kx2]) rfl ⟨rfl, BX⟩
set_option maxRecDepth 20000 in
set_option maxHeartbeats 2000000 in
theorem rqparse_w (s : ByteArray) (w : World) (i : Nat) (hs : s.size ≤ 100000) (hi : i = s.size) (hc : ∀ w, Calls Tryz.prog 78 #[.string s] w (I64End (i : Int) w)) (p r : ByteArray) (hpe : s.extract 0 i = p) (hre : s.extract (i + 1) s.size = r) (z : Int) (hp : ∀ w, Calls Tryz.prog 79 #[.string p] w (PInt z w)) : Calls Tryz.prog 35 #[.string s] w (PQEnd (mkRat z 1) w) := by
  have c1 : (0 : Int) ≤ (i : Int) := by omega
  have c2 : (i : Int) ≤ (s.size : Int) := by omega
  have HPE := Lib.hid hpe
  have HRE := Lib.hid hre
  clear hpe hre
  have c6 : ((i : Int) == (s.size : Int)) = true := by rw [hi]; simp
  clear hi
  have HC := Lib.hid hc
  clear hc
  have HP := Lib.hid hp
  clear hp
  have B0 := below_a1 w (.cells #[.bool false, .slice none 0 0, .slice none 0 0] 27)
  have kr := (Rq.new w (w.heap.size) (by simp))
  go_enter Tryz.func35, Tryz.ntmps35
  have kr_0 := kr.1
  have kr_1 := kr.2.1
  have kr_2 := kr.2.2.1
  have kr_3 := kr.2.2.2.1
  have kr_4 := kr.2.2.2.2.1
  have kr_5 := kr.2.2.2.2.2
  go_wp2_with fail
  refine (HC.out _).mono ?_
  clear kr_0 kr_1 kr_2 kr_3 kr_4 kr_5
  rintro e w1 ⟨rfl, bb⟩
  have kr := kr.below bb
  have B0 := B0.trans (bb.mono B0.size)
  clear bb
  have kr_0 := kr.1
  have kr_1 := kr.2.1
  have kr_2 := kr.2.2.1
  have kr_3 := kr.2.2.2.1
  have kr_4 := kr.2.2.2.2.1
  have kr_5 := kr.2.2.2.2.2
  go_wp2_with fail
  clear kr_0 kr_1 kr_2 kr_3 kr_4 kr_5
  first | rw [HPE.out] | (simp only [Int.toNat_natCast]; rw [HPE.out])
  refine (HP.out _).mono ?_
  rintro e w2 ⟨v2, rfl, z2, bb⟩
  have kr := kr.below bb
  have B0 := B0.trans (bb.mono B0.size)
  clear bb
  obtain ⟨b2, A2, n2, c2, rfl, z2⟩ := z2.cells
  have lkr_w2 := kr.apart.1
  have B0_w2 := B0
  have kr_w2 := kr
  have kr_w2_0 := kr.1
  have kr_w2_1 := kr.2.1
  have kr_w2_2 := kr.2.2.1
  have kr_w2_3 := kr.2.2.2.1
  have kr_w2_4 := kr.2.2.2.2.1
  have kr_w2_5 := kr.2.2.2.2.2
  have kr := kr.below (below_alloc w2 (.cells #[.bool b2, .slice A2 n2 c2] 25))
  have z2 := z2.below (below_alloc w2 (.cells #[.bool b2, .slice A2 n2 c2] 25))
  have kn := Bx.new w2 (w2.heap.size) (by simp) (.bool b2) (.slice A2 n2 c2)
  have B0 := B0.trans ((below_alloc w2 (.cells #[.bool b2, .slice A2 n2 c2] 25)).mono B0.size)
  go_wp2_with fail
  have kr := kr.drew
  have z2 := z2.drew
  have kn := kn.drew
  have B0 := b_drew B0
  go_region_held3 (fun w' => w'.cell? ⟨w2.heap.size, 0, none⟩ = some (.bool b2) ∧ w'.cell? ⟨w2.heap.size, 1, none⟩ = some (.slice A2 n2 c2)) (first | with_reducible exact ⟨kn.c0, kn.c1⟩ | with_reducible exact ⟨(kn.ret3 (r := w.heap.size) (by omega) _ _ _).c0, (kn.ret3 (r := w.heap.size) (by omega) _ _ _).c1⟩)
    (first
      | (go_at_call 62; (with_reducible refine (rof_z' 1 1 rfl ?_).mono ?_); omega; rintro e w3 ⟨v3, rfl, z3, bb⟩; have kr := kr.below bb; have z2 := z2.below bb; have kn := kn.below bb; have B0 := B0.trans (bb.mono B0.size); clear bb; obtain ⟨A3, n3, c3, rfl, _, _⟩ := z3.nm.form; have kn_0 := kn.c0; have kn_1 := kn.c1; have kr_0 := kr.1; have kr_1 := kr.2.1; have kr_2 := kr.2.2.1; have kr_3 := kr.2.2.2.1; have kr_4 := kr.2.2.2.2.1; have kr_5 := kr.2.2.2.2.2))
  go_wp2
  refine bodyPost_ret (v := .tuple #[.agg #[.bool b2, .slice A2 n2 c2, .slice A3 n3 c3], .int .i64 0]) (by simp [results, Tryz.results35, go_sem, kr_0, kr_1, kr_2]) rfl ⟨_, _, _, _, _, _, _, rfl, Qz.mk ((z2.wide (by omega)).ret3 kr _ _ _) ((z3.wide' (by omega)).ret3 kr _ _ _) (RatN.whole z).1.symm (RatN.whole z).2.symm, below_ret3 B0 (by omega) _ _ _⟩
set_option maxRecDepth 20000 in
set_option maxHeartbeats 2000000 in
theorem rqparse_d (s : ByteArray) (w : World) (i : Nat) (hs : s.size ≤ 100000) (hi : i < s.size) (hc : ∀ w, Calls Tryz.prog 78 #[.string s] w (I64End (i : Int) w)) (p r : ByteArray) (hpe : s.extract 0 i = p) (hre : s.extract (i + 1) s.size = r) (z : Int) (hp : ∀ w, Calls Tryz.prog 79 #[.string p] w (PInt z w)) (code : Int) (h0 : code ≠ 0) (hr : ∀ w, Calls Tryz.prog 80 #[.string r] w (PNErr code w)) : Calls Tryz.prog 35 #[.string s] w (PQErr code w) := by
  have c1 : (0 : Int) ≤ (i : Int) := by omega
  have c2 : (i : Int) ≤ (s.size : Int) := by omega
  have HPE := Lib.hid hpe
  have HRE := Lib.hid hre
  clear hpe hre
  have c3 : (0 : Int) ≤ (i : Int) + 1 := by omega
  have c4 : (i : Int) + 1 ≤ (s.size : Int) := by omega
  have c5 : IntKind.i64.wrap ((i : Int) + 1) = (i : Int) + 1 := by rw [IntKind.wrap_i64]; omega
  have c6 : ((i : Int) == (s.size : Int)) = false := by rw [beq_eq_false_iff_ne]; omega
  have c7 : ((i : Int) + 1).toNat = i + 1 := by omega
  have hb : (code != 0) = true := by simpa using h0
  clear h0
  have HC := Lib.hid hc
  clear hc
  have HP := Lib.hid hp
  clear hp
  have HR := Lib.hid hr
  clear hr
  have B0 := below_a1 w (.cells #[.bool false, .slice none 0 0, .slice none 0 0] 27)
  have kr := (Rq.new w (w.heap.size) (by simp))
  go_enter Tryz.func35, Tryz.ntmps35
  have kr_0 := kr.1
  have kr_1 := kr.2.1
  have kr_2 := kr.2.2.1
  have kr_3 := kr.2.2.2.1
  have kr_4 := kr.2.2.2.2.1
  have kr_5 := kr.2.2.2.2.2
  go_wp2_with fail
  refine (HC.out _).mono ?_
  clear kr_0 kr_1 kr_2 kr_3 kr_4 kr_5
  rintro e w1 ⟨rfl, bb⟩
  have kr := kr.below bb
  have B0 := B0.trans (bb.mono B0.size)
  clear bb
  have kr_0 := kr.1
  have kr_1 := kr.2.1
  have kr_2 := kr.2.2.1
  have kr_3 := kr.2.2.2.1
  have kr_4 := kr.2.2.2.2.1
  have kr_5 := kr.2.2.2.2.2
  go_wp2_with fail
  clear kr_0 kr_1 kr_2 kr_3 kr_4 kr_5
  first | rw [HPE.out] | (simp only [Int.toNat_natCast]; rw [HPE.out])
  refine (HP.out _).mono ?_
  rintro e w2 ⟨v2, rfl, z2, bb⟩
  have kr := kr.below bb
  have B0 := B0.trans (bb.mono B0.size)
  clear bb
  obtain ⟨b2, A2, n2, c2, rfl, z2⟩ := z2.cells
  have lkr_w2 := kr.apart.1
  have B0_w2 := B0
  have kr_w2 := kr
  have kr_w2_0 := kr.1
  have kr_w2_1 := kr.2.1
  have kr_w2_2 := kr.2.2.1
  have kr_w2_3 := kr.2.2.2.1
  have kr_w2_4 := kr.2.2.2.2.1
  have kr_w2_5 := kr.2.2.2.2.2
  have kr := kr.below (below_alloc w2 (.cells #[.bool b2, .slice A2 n2 c2] 25))
  have z2 := z2.below (below_alloc w2 (.cells #[.bool b2, .slice A2 n2 c2] 25))
  have kn := Bx.new w2 (w2.heap.size) (by simp) (.bool b2) (.slice A2 n2 c2)
  have B0 := B0.trans ((below_alloc w2 (.cells #[.bool b2, .slice A2 n2 c2] 25)).mono B0.size)
  have kn_0 := kn.c0
  have kn_1 := kn.c1
  have kr_0 := kr.1
  have kr_1 := kr.2.1
  have kr_2 := kr.2.2.1
  have kr_3 := kr.2.2.2.1
  have kr_4 := kr.2.2.2.2.1
  have kr_5 := kr.2.2.2.2.2
  go_wp2_with fail
  clear kn_0 kn_1 kr_0 kr_1 kr_2 kr_3 kr_4 kr_5
  first | rw [HRE.out] | (simp only [c7]; rw [HRE.out])
  refine (HR.out _).mono ?_
  rintro e w3 ⟨rfl, bb⟩
  have kr := kr.below bb
  have z2 := z2.below bb
  have kn := kn.below bb
  have B0 := B0.trans (bb.mono B0.size)
  clear bb
  have kn_0 := kn.c0
  have kn_1 := kn.c1
  have kr_0 := kr.1
  have kr_1 := kr.2.1
  have kr_2 := kr.2.2.1
  have kr_3 := kr.2.2.2.1
  have kr_4 := kr.2.2.2.2.1
  have kr_5 := kr.2.2.2.2.2
  go_wp2
  refine bodyPost_ret (v := .tuple #[.agg #[.bool false, .slice none 0 0, .slice none 0 0], .int .i64 code]) (by simp [results, Tryz.results35, go_sem, kr_0, kr_1, kr_2]) rfl ⟨rfl, below_ret3 B0 (by omega) _ _ _⟩
set_option maxRecDepth 20000 in
set_option maxHeartbeats 2000000 in
theorem rqparse_x (s : ByteArray) (w : World) (i : Nat) (hs : s.size ≤ 100000) (hi : i < s.size) (hc : ∀ w, Calls Tryz.prog 78 #[.string s] w (I64End (i : Int) w)) (p r : ByteArray) (hpe : s.extract 0 i = p) (hre : s.extract (i + 1) s.size = r) (z : Int) (hp : ∀ w, Calls Tryz.prog 79 #[.string p] w (PInt z w)) (d : Nat) (hr : ∀ w, Calls Tryz.prog 80 #[.string r] w (PNEnd d 200 w)) (o : Int) (ho : cmpI d 1 = o) (ho0 : o ≤ 0) : Calls Tryz.prog 35 #[.string s] w (PQErr 2 w) := by
  have c1 : (0 : Int) ≤ (i : Int) := by omega
  have c2 : (i : Int) ≤ (s.size : Int) := by omega
  have HPE := Lib.hid hpe
  have HRE := Lib.hid hre
  clear hpe hre
  have c3 : (0 : Int) ≤ (i : Int) + 1 := by omega
  have c4 : (i : Int) + 1 ≤ (s.size : Int) := by omega
  have c5 : IntKind.i64.wrap ((i : Int) + 1) = (i : Int) + 1 := by rw [IntKind.wrap_i64]; omega
  have c6 : ((i : Int) == (s.size : Int)) = false := by rw [beq_eq_false_iff_ne]; omega
  have c7 : ((i : Int) + 1).toNat = i + 1 := by omega
  have HC := Lib.hid hc
  clear hc
  have HP := Lib.hid hp
  clear hp
  have HR := Lib.hid hr
  clear hr
  have HO := Lib.hid ho
  clear ho
  have hle : decide (o ≤ 0) = true := by simp; omega
  have B0 := below_a1 w (.cells #[.bool false, .slice none 0 0, .slice none 0 0] 27)
  have kr := (Rq.new w (w.heap.size) (by simp))
  go_enter Tryz.func35, Tryz.ntmps35
  have kr_0 := kr.1
  have kr_1 := kr.2.1
  have kr_2 := kr.2.2.1
  have kr_3 := kr.2.2.2.1
  have kr_4 := kr.2.2.2.2.1
  have kr_5 := kr.2.2.2.2.2
  go_wp2_with fail
  refine (HC.out _).mono ?_
  clear kr_0 kr_1 kr_2 kr_3 kr_4 kr_5
  rintro e w1 ⟨rfl, bb⟩
  have kr := kr.below bb
  have B0 := B0.trans (bb.mono B0.size)
  clear bb
  have kr_0 := kr.1
  have kr_1 := kr.2.1
  have kr_2 := kr.2.2.1
  have kr_3 := kr.2.2.2.1
  have kr_4 := kr.2.2.2.2.1
  have kr_5 := kr.2.2.2.2.2
  go_wp2_with fail
  clear kr_0 kr_1 kr_2 kr_3 kr_4 kr_5
  first | rw [HPE.out] | (simp only [Int.toNat_natCast]; rw [HPE.out])
  refine (HP.out _).mono ?_
  rintro e w2 ⟨v2, rfl, z2, bb⟩
  have kr := kr.below bb
  have B0 := B0.trans (bb.mono B0.size)
  clear bb
  obtain ⟨b2, A2, n2, c2, rfl, z2⟩ := z2.cells
  have lkr_w2 := kr.apart.1
  have B0_w2 := B0
  have kr_w2 := kr
  have kr_w2_0 := kr.1
  have kr_w2_1 := kr.2.1
  have kr_w2_2 := kr.2.2.1
  have kr_w2_3 := kr.2.2.2.1
  have kr_w2_4 := kr.2.2.2.2.1
  have kr_w2_5 := kr.2.2.2.2.2
  have kr := kr.below (below_alloc w2 (.cells #[.bool b2, .slice A2 n2 c2] 25))
  have z2 := z2.below (below_alloc w2 (.cells #[.bool b2, .slice A2 n2 c2] 25))
  have kn := Bx.new w2 (w2.heap.size) (by simp) (.bool b2) (.slice A2 n2 c2)
  have B0 := B0.trans ((below_alloc w2 (.cells #[.bool b2, .slice A2 n2 c2] 25)).mono B0.size)
  have kn_0 := kn.c0
  have kn_1 := kn.c1
  have kr_0 := kr.1
  have kr_1 := kr.2.1
  have kr_2 := kr.2.2.1
  have kr_3 := kr.2.2.2.1
  have kr_4 := kr.2.2.2.2.1
  have kr_5 := kr.2.2.2.2.2
  go_wp2_with fail
  clear kn_0 kn_1 kr_0 kr_1 kr_2 kr_3 kr_4 kr_5
  first | rw [HRE.out] | (simp only [c7]; rw [HRE.out])
  refine (HR.out _).mono ?_
  rintro e w3 ⟨v3, rfl, z3, bb⟩
  have kr := kr.below bb
  have z2 := z2.below bb
  have kn := kn.below bb
  have B0 := B0.trans (bb.mono B0.size)
  clear bb
  obtain ⟨A3, n3, c3, rfl, _, _⟩ := z3.nm.form
  have kn_0 := kn.c0
  have kn_1 := kn.c1
  have kr_0 := kr.1
  have kr_1 := kr.2.1
  have kr_2 := kr.2.2.1
  have kr_3 := kr.2.2.2.1
  have kr_4 := kr.2.2.2.2.1
  have kr_5 := kr.2.2.2.2.2
  go_wp2_with fail
  refine (rof_z' 1 1 rfl (by decide)).mono ?_
  clear kn_0 kn_1 kr_0 kr_1 kr_2 kr_3 kr_4 kr_5
  rintro e w4 ⟨v4, rfl, z4, bb⟩
  have kr := kr.below bb
  have z2 := z2.below bb
  have kn := kn.below bb
  have z3 := z3.below bb
  have B0 := B0.trans (bb.mono B0.size)
  clear bb
  obtain ⟨A4, n4, c4, rfl, _, _⟩ := z4.nm.form
  have kn_0 := kn.c0
  have kn_1 := kn.c1
  have kr_0 := kr.1
  have kr_1 := kr.2.1
  have kr_2 := kr.2.2.1
  have kr_3 := kr.2.2.2.1
  have kr_4 := kr.2.2.2.2.1
  have kr_5 := kr.2.2.2.2.2
  go_wp2_with fail
  refine (rcmp_n z3.nm z4.nm (by omega) (by omega) _ HO.out).mono ?_
  clear kn_0 kn_1 kr_0 kr_1 kr_2 kr_3 kr_4 kr_5
  rintro e w5 ⟨rfl, bb⟩
  have kr := kr.below bb
  have z2 := z2.below bb
  have kn := kn.below bb
  have z3 := z3.below bb
  have z4 := z4.below bb
  have B0 := B0.trans (bb.mono B0.size)
  clear bb
  have kn_0 := kn.c0
  have kn_1 := kn.c1
  have kr_0 := kr.1
  have kr_1 := kr.2.1
  have kr_2 := kr.2.2.1
  have kr_3 := kr.2.2.2.1
  have kr_4 := kr.2.2.2.2.1
  have kr_5 := kr.2.2.2.2.2
  go_wp2
  refine bodyPost_ret (v := .tuple #[.agg #[.bool false, .slice none 0 0, .slice none 0 0], .int .i64 2]) (by simp [results, Tryz.results35, go_sem, kr_0, kr_1, kr_2]) rfl ⟨rfl, below_ret3 B0 (by omega) _ _ _⟩
set_option maxRecDepth 20000 in
set_option maxHeartbeats 2000000 in
theorem rqparse_xg (s : ByteArray) (w : World) (i : Nat) (hs : s.size ≤ 100000) (hi : i < s.size) (hc : ∀ w, Calls Tryz.prog 78 #[.string s] w (I64End (i : Int) w)) (p r : ByteArray) (hpe : s.extract 0 i = p) (hre : s.extract (i + 1) s.size = r) (z : Int) (hp : ∀ w, Calls Tryz.prog 79 #[.string p] w (PInt z w)) (d : Nat) (hr : ∀ w, Calls Tryz.prog 80 #[.string r] w (PNEnd d 200 w)) (o : Int) (ho : cmpI d 1 = o) (ho0 : 0 < o) (q : Int) (hq : cmpI (Nat.gcd z.natAbs d) 1 = q) (hq0 : (q != 0) = true) (h201 : z.natAbs < Num.K ^ 60) (h202 : d < Num.K ^ 60) : Calls Tryz.prog 35 #[.string s] w (PQErr 2 w) := by
  have c1 : (0 : Int) ≤ (i : Int) := by omega
  have c2 : (i : Int) ≤ (s.size : Int) := by omega
  have HPE := Lib.hid hpe
  have HRE := Lib.hid hre
  clear hpe hre
  have c3 : (0 : Int) ≤ (i : Int) + 1 := by omega
  have c4 : (i : Int) + 1 ≤ (s.size : Int) := by omega
  have c5 : IntKind.i64.wrap ((i : Int) + 1) = (i : Int) + 1 := by rw [IntKind.wrap_i64]; omega
  have c6 : ((i : Int) == (s.size : Int)) = false := by rw [beq_eq_false_iff_ne]; omega
  have c7 : ((i : Int) + 1).toNat = i + 1 := by omega
  have HC := Lib.hid hc
  clear hc
  have HP := Lib.hid hp
  clear hp
  have HR := Lib.hid hr
  clear hr
  have HO := Lib.hid ho
  clear ho
  have HQ := Lib.hid hq
  clear hq
  have H201 := Lib.hid h201
  clear h201
  have H202 := Lib.hid h202
  clear h202
  have hle : decide (o ≤ 0) = false := by simp; omega
  have B0 := below_a1 w (.cells #[.bool false, .slice none 0 0, .slice none 0 0] 27)
  have kr := (Rq.new w (w.heap.size) (by simp))
  go_enter Tryz.func35, Tryz.ntmps35
  have kr_0 := kr.1
  have kr_1 := kr.2.1
  have kr_2 := kr.2.2.1
  have kr_3 := kr.2.2.2.1
  have kr_4 := kr.2.2.2.2.1
  have kr_5 := kr.2.2.2.2.2
  go_wp2_with fail
  refine (HC.out _).mono ?_
  clear kr_0 kr_1 kr_2 kr_3 kr_4 kr_5
  rintro e w1 ⟨rfl, bb⟩
  have kr := kr.below bb
  have B0 := B0.trans (bb.mono B0.size)
  clear bb
  have kr_0 := kr.1
  have kr_1 := kr.2.1
  have kr_2 := kr.2.2.1
  have kr_3 := kr.2.2.2.1
  have kr_4 := kr.2.2.2.2.1
  have kr_5 := kr.2.2.2.2.2
  go_wp2_with fail
  clear kr_0 kr_1 kr_2 kr_3 kr_4 kr_5
  first | rw [HPE.out] | (simp only [Int.toNat_natCast]; rw [HPE.out])
  refine (HP.out _).mono ?_
  rintro e w2 ⟨v2, rfl, z2, bb⟩
  have kr := kr.below bb
  have B0 := B0.trans (bb.mono B0.size)
  clear bb
  obtain ⟨b2, A2, n2, c2, rfl, z2⟩ := z2.cells
  have lkr_w2 := kr.apart.1
  have B0_w2 := B0
  have kr_w2 := kr
  have kr_w2_0 := kr.1
  have kr_w2_1 := kr.2.1
  have kr_w2_2 := kr.2.2.1
  have kr_w2_3 := kr.2.2.2.1
  have kr_w2_4 := kr.2.2.2.2.1
  have kr_w2_5 := kr.2.2.2.2.2
  have kr := kr.below (below_alloc w2 (.cells #[.bool b2, .slice A2 n2 c2] 25))
  have z2 := z2.below (below_alloc w2 (.cells #[.bool b2, .slice A2 n2 c2] 25))
  have kn := Bx.new w2 (w2.heap.size) (by simp) (.bool b2) (.slice A2 n2 c2)
  have B0 := B0.trans ((below_alloc w2 (.cells #[.bool b2, .slice A2 n2 c2] 25)).mono B0.size)
  have kn_0 := kn.c0
  have kn_1 := kn.c1
  have kr_0 := kr.1
  have kr_1 := kr.2.1
  have kr_2 := kr.2.2.1
  have kr_3 := kr.2.2.2.1
  have kr_4 := kr.2.2.2.2.1
  have kr_5 := kr.2.2.2.2.2
  go_wp2_with fail
  clear kn_0 kn_1 kr_0 kr_1 kr_2 kr_3 kr_4 kr_5
  first | rw [HRE.out] | (simp only [c7]; rw [HRE.out])
  refine (HR.out _).mono ?_
  rintro e w3 ⟨v3, rfl, z3, bb⟩
  have kr := kr.below bb
  have z2 := z2.below bb
  have kn := kn.below bb
  have B0 := B0.trans (bb.mono B0.size)
  clear bb
  obtain ⟨A3, n3, c3, rfl, _, _⟩ := z3.nm.form
  have kn_0 := kn.c0
  have kn_1 := kn.c1
  have kr_0 := kr.1
  have kr_1 := kr.2.1
  have kr_2 := kr.2.2.1
  have kr_3 := kr.2.2.2.1
  have kr_4 := kr.2.2.2.2.1
  have kr_5 := kr.2.2.2.2.2
  go_wp2_with fail
  refine (rof_z' 1 1 rfl (by decide)).mono ?_
  clear kn_0 kn_1 kr_0 kr_1 kr_2 kr_3 kr_4 kr_5
  rintro e w4 ⟨v4, rfl, z4, bb⟩
  have kr := kr.below bb
  have z2 := z2.below bb
  have kn := kn.below bb
  have z3 := z3.below bb
  have B0 := B0.trans (bb.mono B0.size)
  clear bb
  obtain ⟨A4, n4, c4, rfl, _, _⟩ := z4.nm.form
  have kn_0 := kn.c0
  have kn_1 := kn.c1
  have kr_0 := kr.1
  have kr_1 := kr.2.1
  have kr_2 := kr.2.2.1
  have kr_3 := kr.2.2.2.1
  have kr_4 := kr.2.2.2.2.1
  have kr_5 := kr.2.2.2.2.2
  go_wp2_with fail
  refine (rcmp_n z3.nm z4.nm (by omega) (by omega) _ HO.out).mono ?_
  clear kn_0 kn_1 kr_0 kr_1 kr_2 kr_3 kr_4 kr_5
  rintro e w5 ⟨rfl, bb⟩
  have kr := kr.below bb
  have z2 := z2.below bb
  have kn := kn.below bb
  have z3 := z3.below bb
  have z4 := z4.below bb
  have B0 := B0.trans (bb.mono B0.size)
  clear bb
  obtain ⟨mz, nz, hz, _⟩ := z2.parts
  have hzn : z.natAbs = mz := by rw [hz]; exact RatN.sgn_abs _ _
  have HQ' : Hid (cmpI (Nat.gcd mz d) 1 = q) := by show _ = _; rw [← hzn]; exact HQ.out
  have H201' : Hid (mz < Num.K ^ 60) := by show _ < _; rw [← hzn]; exact H201.out
  clear hz hzn
  have kn_0 := kn.c0
  have kn_1 := kn.c1
  have kr_0 := kr.1
  have kr_1 := kr.2.1
  have kr_2 := kr.2.2.1
  have kr_3 := kr.2.2.2.1
  have kr_4 := kr.2.2.2.2.1
  have kr_5 := kr.2.2.2.2.2
  go_wp2_with fail
  refine (rgcd_s nz z3 H201'.out H202.out).mono ?_
  clear kn_0 kn_1 kr_0 kr_1 kr_2 kr_3 kr_4 kr_5
  rintro e w6 ⟨v5, rfl, z5, bb⟩
  have kr := kr.below bb
  have z2 := z2.below bb
  have kn := kn.below bb
  have z3 := z3.below bb
  have z4 := z4.below bb
  have nz := nz.below bb
  have B0 := B0.trans (bb.mono B0.size)
  clear bb
  obtain ⟨A5, n5, c5, rfl, _, _⟩ := z5.nm.form
  have kn_0 := kn.c0
  have kn_1 := kn.c1
  have kr_0 := kr.1
  have kr_1 := kr.2.1
  have kr_2 := kr.2.2.1
  have kr_3 := kr.2.2.2.1
  have kr_4 := kr.2.2.2.2.1
  have kr_5 := kr.2.2.2.2.2
  go_wp2_with fail
  refine (rcmp_n z5.nm z4.nm (by omega) (by omega) _ HQ'.out).mono ?_
  clear kn_0 kn_1 kr_0 kr_1 kr_2 kr_3 kr_4 kr_5
  rintro e w7 ⟨rfl, bb⟩
  have kr := kr.below bb
  have z2 := z2.below bb
  have kn := kn.below bb
  have z3 := z3.below bb
  have z4 := z4.below bb
  have nz := nz.below bb
  have z5 := z5.below bb
  have B0 := B0.trans (bb.mono B0.size)
  clear bb
  have kn_0 := kn.c0
  have kn_1 := kn.c1
  have kr_0 := kr.1
  have kr_1 := kr.2.1
  have kr_2 := kr.2.2.1
  have kr_3 := kr.2.2.2.1
  have kr_4 := kr.2.2.2.2.1
  have kr_5 := kr.2.2.2.2.2
  go_wp2
  refine bodyPost_ret (v := .tuple #[.agg #[.bool false, .slice none 0 0, .slice none 0 0], .int .i64 2]) (by simp [results, Tryz.results35, go_sem, kr_0, kr_1, kr_2]) rfl ⟨rfl, below_ret3 B0 (by omega) _ _ _⟩
set_option maxRecDepth 20000 in
set_option maxHeartbeats 2000000 in
theorem rqparse_ok (s : ByteArray) (w : World) (i : Nat) (hs : s.size ≤ 100000) (hi : i < s.size) (hc : ∀ w, Calls Tryz.prog 78 #[.string s] w (I64End (i : Int) w)) (p r : ByteArray) (hpe : s.extract 0 i = p) (hre : s.extract (i + 1) s.size = r) (z : Int) (hp : ∀ w, Calls Tryz.prog 79 #[.string p] w (PInt z w)) (d : Nat) (hr : ∀ w, Calls Tryz.prog 80 #[.string r] w (PNEnd d 200 w)) (o : Int) (ho : cmpI d 1 = o) (ho0 : 0 < o) (hq : cmpI (Nat.gcd z.natAbs d) 1 = 0) (h2 : d ≠ 0) (hg : Nat.gcd z.natAbs d = 1) (h201 : z.natAbs < Num.K ^ 60) (h202 : d < Num.K ^ 60) : Calls Tryz.prog 35 #[.string s] w (PQEnd (mkRat z d) w) := by
  have c1 : (0 : Int) ≤ (i : Int) := by omega
  have c2 : (i : Int) ≤ (s.size : Int) := by omega
  have HPE := Lib.hid hpe
  have HRE := Lib.hid hre
  clear hpe hre
  have c3 : (0 : Int) ≤ (i : Int) + 1 := by omega
  have c4 : (i : Int) + 1 ≤ (s.size : Int) := by omega
  have c5 : IntKind.i64.wrap ((i : Int) + 1) = (i : Int) + 1 := by rw [IntKind.wrap_i64]; omega
  have c6 : ((i : Int) == (s.size : Int)) = false := by rw [beq_eq_false_iff_ne]; omega
  have c7 : ((i : Int) + 1).toNat = i + 1 := by omega
  have HC := Lib.hid hc
  clear hc
  have HP := Lib.hid hp
  clear hp
  have HR := Lib.hid hr
  clear hr
  have HO := Lib.hid ho
  clear ho
  have HQ := Lib.hid hq
  clear hq
  have H201 := Lib.hid h201
  clear h201
  have H202 := Lib.hid h202
  clear h202
  have hl := RatN.low_id z d h2 hg
  have HL := Lib.hid hl
  clear hl h2 hg
  have hle : decide (o ≤ 0) = false := by simp; omega
  have B0 := below_a1 w (.cells #[.bool false, .slice none 0 0, .slice none 0 0] 27)
  have kr := (Rq.new w (w.heap.size) (by simp))
  go_enter Tryz.func35, Tryz.ntmps35
  have kr_0 := kr.1
  have kr_1 := kr.2.1
  have kr_2 := kr.2.2.1
  have kr_3 := kr.2.2.2.1
  have kr_4 := kr.2.2.2.2.1
  have kr_5 := kr.2.2.2.2.2
  go_wp2_with fail
  refine (HC.out _).mono ?_
  clear kr_0 kr_1 kr_2 kr_3 kr_4 kr_5
  rintro e w1 ⟨rfl, bb⟩
  have kr := kr.below bb
  have B0 := B0.trans (bb.mono B0.size)
  clear bb
  have kr_0 := kr.1
  have kr_1 := kr.2.1
  have kr_2 := kr.2.2.1
  have kr_3 := kr.2.2.2.1
  have kr_4 := kr.2.2.2.2.1
  have kr_5 := kr.2.2.2.2.2
  go_wp2_with fail
  clear kr_0 kr_1 kr_2 kr_3 kr_4 kr_5
  first | rw [HPE.out] | (simp only [Int.toNat_natCast]; rw [HPE.out])
  refine (HP.out _).mono ?_
  rintro e w2 ⟨v2, rfl, z2, bb⟩
  have kr := kr.below bb
  have B0 := B0.trans (bb.mono B0.size)
  clear bb
  obtain ⟨b2, A2, n2, c2, rfl, z2⟩ := z2.cells
  have lkr_w2 := kr.apart.1
  have B0_w2 := B0
  have kr_w2 := kr
  have kr_w2_0 := kr.1
  have kr_w2_1 := kr.2.1
  have kr_w2_2 := kr.2.2.1
  have kr_w2_3 := kr.2.2.2.1
  have kr_w2_4 := kr.2.2.2.2.1
  have kr_w2_5 := kr.2.2.2.2.2
  have kr := kr.below (below_alloc w2 (.cells #[.bool b2, .slice A2 n2 c2] 25))
  have z2 := z2.below (below_alloc w2 (.cells #[.bool b2, .slice A2 n2 c2] 25))
  have kn := Bx.new w2 (w2.heap.size) (by simp) (.bool b2) (.slice A2 n2 c2)
  have B0 := B0.trans ((below_alloc w2 (.cells #[.bool b2, .slice A2 n2 c2] 25)).mono B0.size)
  have kn_0 := kn.c0
  have kn_1 := kn.c1
  have kr_0 := kr.1
  have kr_1 := kr.2.1
  have kr_2 := kr.2.2.1
  have kr_3 := kr.2.2.2.1
  have kr_4 := kr.2.2.2.2.1
  have kr_5 := kr.2.2.2.2.2
  go_wp2_with fail
  clear kn_0 kn_1 kr_0 kr_1 kr_2 kr_3 kr_4 kr_5
  first | rw [HRE.out] | (simp only [c7]; rw [HRE.out])
  refine (HR.out _).mono ?_
  rintro e w3 ⟨v3, rfl, z3, bb⟩
  have kr := kr.below bb
  have z2 := z2.below bb
  have kn := kn.below bb
  have B0 := B0.trans (bb.mono B0.size)
  clear bb
  obtain ⟨A3, n3, c3, rfl, _, _⟩ := z3.nm.form
  have kn_0 := kn.c0
  have kn_1 := kn.c1
  have kr_0 := kr.1
  have kr_1 := kr.2.1
  have kr_2 := kr.2.2.1
  have kr_3 := kr.2.2.2.1
  have kr_4 := kr.2.2.2.2.1
  have kr_5 := kr.2.2.2.2.2
  go_wp2_with fail
  refine (rof_z' 1 1 rfl (by decide)).mono ?_
  clear kn_0 kn_1 kr_0 kr_1 kr_2 kr_3 kr_4 kr_5
  rintro e w4 ⟨v4, rfl, z4, bb⟩
  have kr := kr.below bb
  have z2 := z2.below bb
  have kn := kn.below bb
  have z3 := z3.below bb
  have B0 := B0.trans (bb.mono B0.size)
  clear bb
  obtain ⟨A4, n4, c4, rfl, _, _⟩ := z4.nm.form
  have kn_0 := kn.c0
  have kn_1 := kn.c1
  have kr_0 := kr.1
  have kr_1 := kr.2.1
  have kr_2 := kr.2.2.1
  have kr_3 := kr.2.2.2.1
  have kr_4 := kr.2.2.2.2.1
  have kr_5 := kr.2.2.2.2.2
  go_wp2_with fail
  refine (rcmp_n z3.nm z4.nm (by omega) (by omega) _ HO.out).mono ?_
  clear kn_0 kn_1 kr_0 kr_1 kr_2 kr_3 kr_4 kr_5
  rintro e w5 ⟨rfl, bb⟩
  have kr := kr.below bb
  have z2 := z2.below bb
  have kn := kn.below bb
  have z3 := z3.below bb
  have z4 := z4.below bb
  have B0 := B0.trans (bb.mono B0.size)
  clear bb
  obtain ⟨mz, nz, hz, _⟩ := z2.parts
  have hzn : z.natAbs = mz := by rw [hz]; exact RatN.sgn_abs _ _
  have HQ' : Hid (cmpI (Nat.gcd mz d) 1 = 0) := by show _ = _; rw [← hzn]; exact HQ.out
  have H201' : Hid (mz < Num.K ^ 60) := by show _ < _; rw [← hzn]; exact H201.out
  clear hz hzn
  have kn_0 := kn.c0
  have kn_1 := kn.c1
  have kr_0 := kr.1
  have kr_1 := kr.2.1
  have kr_2 := kr.2.2.1
  have kr_3 := kr.2.2.2.1
  have kr_4 := kr.2.2.2.2.1
  have kr_5 := kr.2.2.2.2.2
  go_wp2_with fail
  refine (rgcd_s nz z3 H201'.out H202.out).mono ?_
  clear kn_0 kn_1 kr_0 kr_1 kr_2 kr_3 kr_4 kr_5
  rintro e w6 ⟨v5, rfl, z5, bb⟩
  have kr := kr.below bb
  have z2 := z2.below bb
  have kn := kn.below bb
  have z3 := z3.below bb
  have z4 := z4.below bb
  have nz := nz.below bb
  have B0 := B0.trans (bb.mono B0.size)
  clear bb
  obtain ⟨A5, n5, c5, rfl, _, _⟩ := z5.nm.form
  have kn_0 := kn.c0
  have kn_1 := kn.c1
  have kr_0 := kr.1
  have kr_1 := kr.2.1
  have kr_2 := kr.2.2.1
  have kr_3 := kr.2.2.2.1
  have kr_4 := kr.2.2.2.2.1
  have kr_5 := kr.2.2.2.2.2
  go_wp2_with fail
  refine (rcmp_n z5.nm z4.nm (by omega) (by omega) _ HQ'.out).mono ?_
  clear kn_0 kn_1 kr_0 kr_1 kr_2 kr_3 kr_4 kr_5
  rintro e w7 ⟨rfl, bb⟩
  have kr := kr.below bb
  have z2 := z2.below bb
  have kn := kn.below bb
  have z3 := z3.below bb
  have z4 := z4.below bb
  have nz := nz.below bb
  have z5 := z5.below bb
  have B0 := B0.trans (bb.mono B0.size)
  clear bb
  have kn_0 := kn.c0
  have kn_1 := kn.c1
  have kr_0 := kr.1
  have kr_1 := kr.2.1
  have kr_2 := kr.2.2.1
  have kr_3 := kr.2.2.2.1
  have kr_4 := kr.2.2.2.2.1
  have kr_5 := kr.2.2.2.2.2
  go_wp2
  refine bodyPost_ret (v := .tuple #[.agg #[.bool b2, .slice A2 n2 c2, .slice A3 n3 c3], .int .i64 0]) (by simp [results, Tryz.results35, go_sem, kr_0, kr_1, kr_2]) rfl ⟨_, _, _, _, _, _, _, rfl, Qz.mk ((z2.wide (by omega)).ret3 kr _ _ _) ((z3.wide' (by omega)).ret3 kr _ _ _) HL.out.1.symm HL.out.2.symm, below_ret3 B0 (by omega) _ _ _⟩
end Go.Proofs.YtfdildganfjahaaGreatDoor
