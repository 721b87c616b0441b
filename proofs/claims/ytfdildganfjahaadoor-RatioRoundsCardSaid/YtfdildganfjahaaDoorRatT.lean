/-
  The walks of ratio.Text, strings.Cut at a slash, and ratio.Parse.
-/
import Derived.Test.YtfdildganfjahaaDoorRatQ
import Derived.Test.YtfdildganfjahaaDoorShelf
import Derived.Lib.Bytealg
import Derived.Lib.IndexLaws
import Derived.Lib.IndexBytes
namespace Go.Proofs.YtfdildganfjahaaDoor
open Go.RowKit
attribute [local go_sem ↓] Go.wp_at_zero Go.wp_at_succ
set_option linter.unusedVariables false

theorem zdec_size {z : Int} {m k : Nat} (hm : m < Num.K ^ k) (hz : z.natAbs = m) {t : ByteArray} (h : t.data.toList = zdec z) : t.size ≤ 10 * k + 2 := by
  have h1 : t.size = (zdec z).length := by rw [← h]; simp
  have h2 := text_size hm (t := ⟨(Lib.decDigits m).toArray⟩) rfl
  have h3 : (⟨(Lib.decDigits m).toArray⟩ : ByteArray).size = (Lib.decDigits m).length := by simp [ByteArray.size]
  rw [h1]
  simp only [zdec]
  split <;> simp only [List.length_cons, hz] <;> omega
set_option maxRecDepth 20000 in
set_option maxHeartbeats 2000000 in
theorem qtext_w {w : World} {va : Value} {x : Rat} {k j : Nat} (ha : Qv w va x k j) (hk : k ≤ 150) (hj : j ≤ 150) (ht : Tab w) (hd : decide (x.den = 1) = true) (t : ByteArray) (hx : t.data.toList = zdec x.num) : Calls Tryd.prog 14 #[va] w (StrEnd t w) := by
  obtain ⟨ba, Aa, na, ca, Ba, ma, da, rfl, _, _, _⟩ := ha.named
  have HT := Lib.hid ht
  clear ht
  have HD := Lib.hid hd
  clear hd
  have HX := Lib.hid hx
  clear hx
  have B0 := below_a1 w (.cells #[.bool ba, .slice Aa na ca, .slice Ba ma da] 27)
  have ha := ha.below B0
  have ka := (Bq.new w (w.heap.size) (by simp) (.bool ba) (.slice Aa na ca) (.slice Ba ma da))
  have fa := Fq.new w w.heap.size rfl (.bool ba) (.slice Aa na ca) (.slice Ba ma da)
  go_enter Tryd.func14, Tryd.ntmps14
  have ka_0 := ka.c0
  have ka_1 := ka.c1
  have ka_2 := ka.c2
  go_wp2_with fail
  refine (qnorm_q ha hk hj).mono ?_
  clear ka_0 ka_1 ka_2
  rintro e w1 ⟨br, Ar, nr, cr, Br, mr, dr, rfl, zr, bb⟩
  have ha := ha.below bb
  have ka := ka.below bb
  have fa := fa.below bb
  have B0 := B0.trans (bb.mono B0.size)
  clear bb
  have ka_0 := ka.c0
  have ka_1 := ka.c1
  have ka_2 := ka.c2
  have f1 := fa.2.1
  have f2 := fa.2.2.1
  have f3 := fa.2.2.2
  go_wp2_with fail
  clear f1 f2 f3
  clear ka_0 ka_1 ka_2
  have zr := zr.over ka (.bool br) (.slice Ar nr cr) (.slice Br mr dr)
  have ka := ka.over (.bool br) (.slice Ar nr cr) (.slice Br mr dr)
  have B0 := below_ret3 B0 (Nat.le_refl _) (.bool br) (.slice Ar nr cr) (.slice Br mr dr)
  refine (isone_n zr.parts.2.nm true HD.out).mono ?_
  rintro e w2 ⟨rfl, bb⟩
  have zr := zr.below bb
  have ka := ka.below bb
  have B0 := B0.trans (bb.mono B0.size)
  clear bb
  have ka_0 := ka.c0
  have ka_1 := ka.c1
  have ka_2 := ka.c2
  go_wp2_with fail
  refine (itext_i zr.parts.1.iv (by omega) (HT.out.below B0) t HX.out).mono ?_
  clear ka_0 ka_1 ka_2
  rintro e w3 ⟨rfl, bb⟩
  have zr := zr.below bb
  have ka := ka.below bb
  have B0 := B0.trans (bb.mono B0.size)
  clear bb
  go_wp2
  go_ret
  exact ⟨rfl, B0⟩
set_option maxRecDepth 20000 in
set_option maxHeartbeats 2000000 in
theorem qtext_f {w : World} {va : Value} {x : Rat} {k j : Nat} (ha : Qv w va x k j) (hk : k ≤ 150) (hj : j ≤ 150) (ht : Tab w) (hd : decide (x.den = 1) = false) (t u v : ByteArray) (hu : u.data.toList = zdec x.num) (hv : v.data.toList = Lib.decDigits x.den) (hx : u ++ ⟨#[47]⟩ ++ v = t) : Calls Tryd.prog 14 #[va] w (StrEnd t w) := by
  obtain ⟨ba, Aa, na, ca, Ba, ma, da, rfl, _, _, _⟩ := ha.named
  have HT := Lib.hid ht
  clear ht
  have HD := Lib.hid hd
  clear hd
  have HX := Lib.hid hx
  clear hx
  have HU := Lib.hid hu
  clear hu
  have HV := Lib.hid hv
  clear hv
  have B0 := below_a1 w (.cells #[.bool ba, .slice Aa na ca, .slice Ba ma da] 27)
  have ha := ha.below B0
  have ka := (Bq.new w (w.heap.size) (by simp) (.bool ba) (.slice Aa na ca) (.slice Ba ma da))
  have fa := Fq.new w w.heap.size rfl (.bool ba) (.slice Aa na ca) (.slice Ba ma da)
  go_enter Tryd.func14, Tryd.ntmps14
  have ka_0 := ka.c0
  have ka_1 := ka.c1
  have ka_2 := ka.c2
  go_wp2_with fail
  refine (qnorm_q ha hk hj).mono ?_
  clear ka_0 ka_1 ka_2
  rintro e w1 ⟨br, Ar, nr, cr, Br, mr, dr, rfl, zr, bb⟩
  have ha := ha.below bb
  have ka := ka.below bb
  have fa := fa.below bb
  have B0 := B0.trans (bb.mono B0.size)
  clear bb
  have ka_0 := ka.c0
  have ka_1 := ka.c1
  have ka_2 := ka.c2
  have f1 := fa.2.1
  have f2 := fa.2.2.1
  have f3 := fa.2.2.2
  go_wp2_with fail
  clear f1 f2 f3
  clear ka_0 ka_1 ka_2
  have zr := zr.over ka (.bool br) (.slice Ar nr cr) (.slice Br mr dr)
  have ka := ka.over (.bool br) (.slice Ar nr cr) (.slice Br mr dr)
  have B0 := below_ret3 B0 (Nat.le_refl _) (.bool br) (.slice Ar nr cr) (.slice Br mr dr)
  refine (isone_n zr.parts.2.nm false HD.out).mono ?_
  rintro e w2 ⟨rfl, bb⟩
  have zr := zr.below bb
  have ka := ka.below bb
  have B0 := B0.trans (bb.mono B0.size)
  clear bb
  have zn := zr.parts.1
  have zd := zr.parts.2
  have hus : u.size ≤ 100000 := by
    obtain ⟨b, A, n, c, m, e, hm, hz, _⟩ := zn
    have h1 := zdec_size (z := x.num) hm.nm.lt (by rw [hz]; exact RatN.sgn_abs _ _) HU.out
    omega
  have hvs : v.size ≤ 100000 := by
    have h1 := text_size zd.nm.lt HV.out
    omega
  go_wp2_with fail
  have zr := zr.drew
  have ka := ka.drew
  have zn := zn.drew
  have zd := zd.drew
  have B0 := b_drew B0
  have ka_0 := ka.c0
  have ka_1 := ka.c1
  have ka_2 := ka.c2
  go_region_with (first
      | (go_at_call 36; (with_reducible refine (itext_i zn.iv ?_ (HT.out.below B0) u HU.out).mono ?_); omega; rintro e w3 ⟨rfl, bb⟩; have zr := zr.below bb; have ka := ka.below bb; have zn := zn.below bb; have zd := zd.below bb; have B0 := B0.trans (bb.mono B0.size); clear bb; have ka_0 := ka.c0; have ka_1 := ka.c1; have ka_2 := ka.c2)
      | (go_at_call 37; (with_reducible refine (text_n zd.nm ?_ (HT.out.below B0) v HV.out).mono ?_); omega; rintro e w4 ⟨rfl, bb⟩; have zr := zr.below bb; have ka := ka.below bb; have zn := zn.below bb; have zd := zd.below bb; have B0 := B0.trans (bb.mono B0.size); clear bb; have ka_0 := ka.c0; have ka_1 := ka.c1; have ka_2 := ka.c2))
  all_goals go_wp2
  all_goals go_ret
  all_goals rw [← HX.out]
  all_goals exact ⟨rfl, B0⟩
theorem qtext_q {w : World} {va : Value} {x : Rat} {k j : Nat} (ha : Qv w va x k j) (hk : k ≤ 150) (hj : j ≤ 150) (ht : Tab w) (t : ByteArray) (hx : t.data.toList = RatN.qdec x) : Calls Tryd.prog 14 #[va] w (StrEnd t w) := by
  by_cases h1 : x.den = 1
  · exact qtext_w ha hk hj ht (decide_eq_true h1) t (by rw [hx]; simp [RatN.qdec, h1])
  · refine qtext_f ha hk hj ht (decide_eq_false h1) t ⟨(zdec x.num).toArray⟩ ⟨(Lib.decDigits x.den).toArray⟩ rfl rfl (bytes_ext ?_)
    rw [hx]
    simp [RatN.qdec, h1]
/-- What strings.Cut at a slash answers. -/
def CutEnd (p r : ByteArray) (f : Bool) (w : World) (e : Ending) (w' : World) : Prop := e = .returned (.tuple #[.string p, .string r, .bool f]) ∧ Below w.heap.size w w'
theorem slcut_hit (s : ByteArray) (i : Nat) (w : World) (h : Lib.indexByte s.data.toList 47 = (i : Int)) (hi : i < s.size) (hs : s.size ≤ 100000) : Calls Tryd.prog 75 #[.string s, .string ⟨#[47]⟩] w (CutEnd (s.extract 0 i) (s.extract (i + 1) s.size) true w) := by
  have B0 := Below.refl w.heap.size w
  have c1 : (0 : Int) ≤ (i : Int) := by omega
  have c2 : (i : Int) ≤ (s.size : Int) := by omega
  have c3 : (0 : Int) ≤ (i : Int) + 1 := by omega
  have c4 : (i : Int) + 1 ≤ (s.size : Int) := by omega
  have c5 : IntKind.i64.wrap ((i : Int) + 1) = (i : Int) + 1 := by rw [IntKind.wrap_i64]; omega
  have H := Lib.hid h
  clear h
  go_enter Tryd.func75, Tryd.ntmps75
  go_wp2_with fail
  refine (Tryd.stringslite_Index_one s 47 _).mono ?_
  rintro e w' ⟨rfl, rfl⟩
  rw [H.out]
  go_wp2_with fail
  go_quiet (fail)
  go_wp2
  go_ret3
  exact ⟨rfl, below_drewN B0 _⟩
theorem slcut_miss (s : ByteArray) (w : World) (h : Lib.indexByte s.data.toList 47 = -1) : Calls Tryd.prog 75 #[.string s, .string ⟨#[47]⟩] w (CutEnd s ⟨#[]⟩ false w) := by
  have B0 := Below.refl w.heap.size w
  have H := Lib.hid h
  clear h
  go_enter Tryd.func75, Tryd.ntmps75
  go_wp2_with fail
  refine (Tryd.stringslite_Index_one s 47 _).mono ?_
  rintro e w' ⟨rfl, rfl⟩
  rw [H.out]
  go_wp2
  go_ret3
  exact ⟨rfl, B0⟩
theorem cut_of (s p r : ByteArray) (f : Bool) (w : World) (h : Calls Tryd.prog 75 #[.string s, .string ⟨#[47]⟩] w (CutEnd p r f w)) : Calls Tryd.prog 52 #[.string s, .string ⟨#[47]⟩] w (CutEnd p r f w) := by
  go_enter Tryd.func52, Tryd.ntmps52
  go_wp2_with fail
  refine h.mono ?_
  rintro e w1 ⟨rfl, bb⟩
  go_wp2
  go_ret3
  exact ⟨rfl, bb⟩
theorem cut_hit (s : ByteArray) (i : Nat) (w : World) (h : Lib.indexByte s.data.toList 47 = (i : Int)) (hi : i < s.size) (hs : s.size ≤ 100000) : Calls Tryd.prog 52 #[.string s, .string ⟨#[47]⟩] w (CutEnd (s.extract 0 i) (s.extract (i + 1) s.size) true w) := cut_of _ _ _ _ _ (slcut_hit s i w h hi hs)
theorem cut_miss (s : ByteArray) (w : World) (h : Lib.indexByte s.data.toList 47 = -1) : Calls Tryd.prog 52 #[.string s, .string ⟨#[47]⟩] w (CutEnd s ⟨#[]⟩ false w) := cut_of _ _ _ _ _ (slcut_miss s w h)
/-- What Parse answers: an error; a ratio. -/
def PQErr (code : Int) (w : World) (e : Ending) (w' : World) : Prop := e = .returned (.tuple #[.agg #[.bool false, .slice none 0 0, .slice none 0 0], .int .i64 code]) ∧ Below w.heap.size w w'
def PQEnd (x : Rat) (w : World) (e : Ending) (w' : World) : Prop := ∃ b A n c B m c', e = .returned (.tuple #[.agg #[.bool b, .slice A n c, .slice B m c'], .int .i64 0]) ∧ Qz w' (.agg #[.bool b, .slice A n c, .slice B m c']) x 200 200 ∧ Below w.heap.size w w'
def PNErr (code : Int) (w : World) (e : Ending) (w' : World) : Prop := e = .returned (.tuple #[.slice none 0 0, .int .i64 code]) ∧ Below w.heap.size w w'
set_option maxRecDepth 20000 in
set_option maxHeartbeats 2000000 in
theorem qparse_e (s : ByteArray) (w : World) (p r : ByteArray) (f : Bool) (hc : ∀ w, Calls Tryd.prog 52 #[.string s, .string ⟨#[47]⟩] w (CutEnd p r f w)) (code : Int) (h0 : code ≠ 0) (hp : ∀ w, Calls Tryd.prog 53 #[.string p] w (PErr code w)) : Calls Tryd.prog 27 #[.string s] w (PQErr code w) := by
  have hb : (code != 0) = true := by simpa using h0
  clear h0
  have HC := Lib.hid hc
  clear hc
  have HP := Lib.hid hp
  clear hp
  have B0 := below_a1 w (.cells #[.bool false, .slice none 0 0, .slice none 0 0] 27)
  have kr := (Rq.new w (w.heap.size) (by simp))
  go_enter Tryd.func27, Tryd.ntmps27
  have kr_0 := kr.1
  have kr_1 := kr.2.1
  have kr_2 := kr.2.2.1
  have kr_3 := kr.2.2.2.1
  have kr_4 := kr.2.2.2.2.1
  have kr_5 := kr.2.2.2.2.2
  go_wp2_with fail
  refine (HC.out _).mono ?_
  clear kr_0 kr_1 kr_2 kr_3 kr_4 kr_5
  rintro e w1 ⟨rfl, bb⟩
  have kr := kr.below bb
  have B0 := B0.trans (bb.mono B0.size)
  clear bb
  have kr_0 := kr.1
  have kr_1 := kr.2.1
  have kr_2 := kr.2.2.1
  have kr_3 := kr.2.2.2.1
  have kr_4 := kr.2.2.2.2.1
  have kr_5 := kr.2.2.2.2.2
  go_wp2_with fail
  refine (HP.out _).mono ?_
  clear kr_0 kr_1 kr_2 kr_3 kr_4 kr_5
  rintro e w2 ⟨rfl, bb⟩
  have kr := kr.below bb
  have B0 := B0.trans (bb.mono B0.size)
  clear bb
  have lkr_w2 := kr.apart.1
  have B0_w2 := B0
  have kr_w2 := kr
  have kr_w2_0 := kr.1
  have kr_w2_1 := kr.2.1
  have kr_w2_2 := kr.2.2.1
  have kr_w2_3 := kr.2.2.2.1
  have kr_w2_4 := kr.2.2.2.2.1
  have kr_w2_5 := kr.2.2.2.2.2
  have kr := kr.below (below_alloc w2 (.cells #[.bool false, .slice none 0 0] 25))
  have kn := Bx.new w2 (w2.heap.size) (by simp) (.bool false) (.slice none 0 0)
  have B0 := B0.trans ((below_alloc w2 (.cells #[.bool false, .slice none 0 0] 25)).mono B0.size)
  have KX := (kr_w2.written (.bool false) (.slice none 0 0) (.slice none 0 0)).later (.cells #[.bool false, .slice none 0 0] 25)
  have kx0 := KX.c0
  have kx1 := KX.c1
  have kx2 := KX.c2
  have BX := (below_ret3 B0_w2 (Nat.le_refl w.heap.size) (.bool false) (.slice none 0 0) (.slice none 0 0)).trans ((below_alloc _ (.cells #[.bool false, .slice none 0 0] 25)).mono (below_ret3 B0_w2 (Nat.le_refl w.heap.size) (.bool false) (.slice none 0 0) (.slice none 0 0)).size)
  have kn_0 := kn.c0
  have kn_1 := kn.c1
  have kr_0 := kr.1
  have kr_1 := kr.2.1
  have kr_2 := kr.2.2.1
  have kr_3 := kr.2.2.2.1
  have kr_4 := kr.2.2.2.2.1
  have kr_5 := kr.2.2.2.2.2
  go_wp2
  refine bodyPost_ret (v := .tuple #[.agg #[.bool false, .slice none 0 0, .slice none 0 0], .int .i64 code]) (by simp [results, Tryd.results27, go_sem, kx0, kx1, kx2]) rfl ⟨rfl, BX⟩
set_option maxRecDepth 20000 in
set_option maxHeartbeats 2000000 in
theorem qparse_w (s : ByteArray) (w : World) (p r : ByteArray) (hc : ∀ w, Calls Tryd.prog 52 #[.string s, .string ⟨#[47]⟩] w (CutEnd p r false w)) (z : Int) (hp : ∀ w, Calls Tryd.prog 53 #[.string p] w (PInt z w)) : Calls Tryd.prog 27 #[.string s] w (PQEnd (mkRat z 1) w) := by
  have HC := Lib.hid hc
  clear hc
  have HP := Lib.hid hp
  clear hp
  have B0 := below_a1 w (.cells #[.bool false, .slice none 0 0, .slice none 0 0] 27)
  have kr := (Rq.new w (w.heap.size) (by simp))
  go_enter Tryd.func27, Tryd.ntmps27
  have kr_0 := kr.1
  have kr_1 := kr.2.1
  have kr_2 := kr.2.2.1
  have kr_3 := kr.2.2.2.1
  have kr_4 := kr.2.2.2.2.1
  have kr_5 := kr.2.2.2.2.2
  go_wp2_with fail
  refine (HC.out _).mono ?_
  clear kr_0 kr_1 kr_2 kr_3 kr_4 kr_5
  rintro e w1 ⟨rfl, bb⟩
  have kr := kr.below bb
  have B0 := B0.trans (bb.mono B0.size)
  clear bb
  have kr_0 := kr.1
  have kr_1 := kr.2.1
  have kr_2 := kr.2.2.1
  have kr_3 := kr.2.2.2.1
  have kr_4 := kr.2.2.2.2.1
  have kr_5 := kr.2.2.2.2.2
  go_wp2_with fail
  refine (HP.out _).mono ?_
  clear kr_0 kr_1 kr_2 kr_3 kr_4 kr_5
  rintro e w2 ⟨v2, rfl, z2, bb⟩
  have kr := kr.below bb
  have B0 := B0.trans (bb.mono B0.size)
  clear bb
  obtain ⟨b2, A2, n2, c2, rfl, z2⟩ := z2.cells
  have lkr_w2 := kr.apart.1
  have B0_w2 := B0
  have kr_w2 := kr
  have kr_w2_0 := kr.1
  have kr_w2_1 := kr.2.1
  have kr_w2_2 := kr.2.2.1
  have kr_w2_3 := kr.2.2.2.1
  have kr_w2_4 := kr.2.2.2.2.1
  have kr_w2_5 := kr.2.2.2.2.2
  have kr := kr.below (below_alloc w2 (.cells #[.bool b2, .slice A2 n2 c2] 25))
  have z2 := z2.below (below_alloc w2 (.cells #[.bool b2, .slice A2 n2 c2] 25))
  have kn := Bx.new w2 (w2.heap.size) (by simp) (.bool b2) (.slice A2 n2 c2)
  have B0 := B0.trans ((below_alloc w2 (.cells #[.bool b2, .slice A2 n2 c2] 25)).mono B0.size)
  go_wp2_with fail
  have kr := kr.drew
  have z2 := z2.drew
  have kn := kn.drew
  have B0 := b_drew B0
  go_region_held3 (fun w' => w'.cell? ⟨w2.heap.size, 0, none⟩ = some (.bool b2) ∧ w'.cell? ⟨w2.heap.size, 1, none⟩ = some (.slice A2 n2 c2)) (first | with_reducible exact ⟨kn.c0, kn.c1⟩ | with_reducible exact ⟨(kn.ret3 (r := w.heap.size) (by omega) _ _ _).c0, (kn.ret3 (r := w.heap.size) (by omega) _ _ _).c1⟩)
    (first
      | (go_at_call 54; (with_reducible refine (of_z 1 1 rfl ?_).mono ?_); omega; rintro e w3 ⟨v3, rfl, z3, bb⟩; have kr := kr.below bb; have z2 := z2.below bb; have kn := kn.below bb; have B0 := B0.trans (bb.mono B0.size); clear bb; obtain ⟨A3, n3, c3, rfl, _, _⟩ := z3.nm.form; have kn_0 := kn.c0; have kn_1 := kn.c1; have kr_0 := kr.1; have kr_1 := kr.2.1; have kr_2 := kr.2.2.1; have kr_3 := kr.2.2.2.1; have kr_4 := kr.2.2.2.2.1; have kr_5 := kr.2.2.2.2.2))
  go_wp2
  refine bodyPost_ret (v := .tuple #[.agg #[.bool b2, .slice A2 n2 c2, .slice A3 n3 c3], .int .i64 0]) (by simp [results, Tryd.results27, go_sem, kr_0, kr_1, kr_2]) rfl ⟨_, _, _, _, _, _, _, rfl, Qz.mk ((z2.wide (by omega)).ret3 kr _ _ _) ((z3.wide' (by omega)).ret3 kr _ _ _) (RatN.whole z).1.symm (RatN.whole z).2.symm, below_ret3 B0 (by omega) _ _ _⟩
set_option maxRecDepth 20000 in
set_option maxHeartbeats 2000000 in
theorem qparse_d (s : ByteArray) (w : World) (p r : ByteArray) (hc : ∀ w, Calls Tryd.prog 52 #[.string s, .string ⟨#[47]⟩] w (CutEnd p r true w)) (z : Int) (hp : ∀ w, Calls Tryd.prog 53 #[.string p] w (PInt z w)) (code : Int) (h0 : code ≠ 0) (hr : ∀ w, Calls Tryd.prog 55 #[.string r] w (PNErr code w)) : Calls Tryd.prog 27 #[.string s] w (PQErr code w) := by
  have hb : (code != 0) = true := by simpa using h0
  clear h0
  have HC := Lib.hid hc
  clear hc
  have HP := Lib.hid hp
  clear hp
  have HR := Lib.hid hr
  clear hr
  have B0 := below_a1 w (.cells #[.bool false, .slice none 0 0, .slice none 0 0] 27)
  have kr := (Rq.new w (w.heap.size) (by simp))
  go_enter Tryd.func27, Tryd.ntmps27
  have kr_0 := kr.1
  have kr_1 := kr.2.1
  have kr_2 := kr.2.2.1
  have kr_3 := kr.2.2.2.1
  have kr_4 := kr.2.2.2.2.1
  have kr_5 := kr.2.2.2.2.2
  go_wp2_with fail
  refine (HC.out _).mono ?_
  clear kr_0 kr_1 kr_2 kr_3 kr_4 kr_5
  rintro e w1 ⟨rfl, bb⟩
  have kr := kr.below bb
  have B0 := B0.trans (bb.mono B0.size)
  clear bb
  have kr_0 := kr.1
  have kr_1 := kr.2.1
  have kr_2 := kr.2.2.1
  have kr_3 := kr.2.2.2.1
  have kr_4 := kr.2.2.2.2.1
  have kr_5 := kr.2.2.2.2.2
  go_wp2_with fail
  refine (HP.out _).mono ?_
  clear kr_0 kr_1 kr_2 kr_3 kr_4 kr_5
  rintro e w2 ⟨v2, rfl, z2, bb⟩
  have kr := kr.below bb
  have B0 := B0.trans (bb.mono B0.size)
  clear bb
  obtain ⟨b2, A2, n2, c2, rfl, z2⟩ := z2.cells
  have lkr_w2 := kr.apart.1
  have B0_w2 := B0
  have kr_w2 := kr
  have kr_w2_0 := kr.1
  have kr_w2_1 := kr.2.1
  have kr_w2_2 := kr.2.2.1
  have kr_w2_3 := kr.2.2.2.1
  have kr_w2_4 := kr.2.2.2.2.1
  have kr_w2_5 := kr.2.2.2.2.2
  have kr := kr.below (below_alloc w2 (.cells #[.bool b2, .slice A2 n2 c2] 25))
  have z2 := z2.below (below_alloc w2 (.cells #[.bool b2, .slice A2 n2 c2] 25))
  have kn := Bx.new w2 (w2.heap.size) (by simp) (.bool b2) (.slice A2 n2 c2)
  have B0 := B0.trans ((below_alloc w2 (.cells #[.bool b2, .slice A2 n2 c2] 25)).mono B0.size)
  have kn_0 := kn.c0
  have kn_1 := kn.c1
  have kr_0 := kr.1
  have kr_1 := kr.2.1
  have kr_2 := kr.2.2.1
  have kr_3 := kr.2.2.2.1
  have kr_4 := kr.2.2.2.2.1
  have kr_5 := kr.2.2.2.2.2
  go_wp2_with fail
  refine (HR.out _).mono ?_
  clear kn_0 kn_1 kr_0 kr_1 kr_2 kr_3 kr_4 kr_5
  rintro e w3 ⟨rfl, bb⟩
  have kr := kr.below bb
  have z2 := z2.below bb
  have kn := kn.below bb
  have B0 := B0.trans (bb.mono B0.size)
  clear bb
  have kn_0 := kn.c0
  have kn_1 := kn.c1
  have kr_0 := kr.1
  have kr_1 := kr.2.1
  have kr_2 := kr.2.2.1
  have kr_3 := kr.2.2.2.1
  have kr_4 := kr.2.2.2.2.1
  have kr_5 := kr.2.2.2.2.2
  go_wp2
  refine bodyPost_ret (v := .tuple #[.agg #[.bool false, .slice none 0 0, .slice none 0 0], .int .i64 code]) (by simp [results, Tryd.results27, go_sem, kr_0, kr_1, kr_2]) rfl ⟨rfl, below_ret3 B0 (by omega) _ _ _⟩
set_option maxRecDepth 20000 in
set_option maxHeartbeats 2000000 in
theorem qparse_x0 (s : ByteArray) (w : World) (p r : ByteArray) (hc : ∀ w, Calls Tryd.prog 52 #[.string s, .string ⟨#[47]⟩] w (CutEnd p r true w)) (z : Int) (hp : ∀ w, Calls Tryd.prog 53 #[.string p] w (PInt z w)) (d : Nat) (hr : ∀ w, Calls Tryd.prog 55 #[.string r] w (PNEnd d 200 w)) (h0 : d = 0) : Calls Tryd.prog 27 #[.string s] w (PQErr 2 w) := by
  have HC := Lib.hid hc
  clear hc
  have HP := Lib.hid hp
  clear hp
  have HR := Lib.hid hr
  clear hr
  subst h0
  have B0 := below_a1 w (.cells #[.bool false, .slice none 0 0, .slice none 0 0] 27)
  have kr := (Rq.new w (w.heap.size) (by simp))
  go_enter Tryd.func27, Tryd.ntmps27
  have kr_0 := kr.1
  have kr_1 := kr.2.1
  have kr_2 := kr.2.2.1
  have kr_3 := kr.2.2.2.1
  have kr_4 := kr.2.2.2.2.1
  have kr_5 := kr.2.2.2.2.2
  go_wp2_with fail
  refine (HC.out _).mono ?_
  clear kr_0 kr_1 kr_2 kr_3 kr_4 kr_5
  rintro e w1 ⟨rfl, bb⟩
  have kr := kr.below bb
  have B0 := B0.trans (bb.mono B0.size)
  clear bb
  have kr_0 := kr.1
  have kr_1 := kr.2.1
  have kr_2 := kr.2.2.1
  have kr_3 := kr.2.2.2.1
  have kr_4 := kr.2.2.2.2.1
  have kr_5 := kr.2.2.2.2.2
  go_wp2_with fail
  refine (HP.out _).mono ?_
  clear kr_0 kr_1 kr_2 kr_3 kr_4 kr_5
  rintro e w2 ⟨v2, rfl, z2, bb⟩
  have kr := kr.below bb
  have B0 := B0.trans (bb.mono B0.size)
  clear bb
  obtain ⟨b2, A2, n2, c2, rfl, z2⟩ := z2.cells
  have lkr_w2 := kr.apart.1
  have B0_w2 := B0
  have kr_w2 := kr
  have kr_w2_0 := kr.1
  have kr_w2_1 := kr.2.1
  have kr_w2_2 := kr.2.2.1
  have kr_w2_3 := kr.2.2.2.1
  have kr_w2_4 := kr.2.2.2.2.1
  have kr_w2_5 := kr.2.2.2.2.2
  have kr := kr.below (below_alloc w2 (.cells #[.bool b2, .slice A2 n2 c2] 25))
  have z2 := z2.below (below_alloc w2 (.cells #[.bool b2, .slice A2 n2 c2] 25))
  have kn := Bx.new w2 (w2.heap.size) (by simp) (.bool b2) (.slice A2 n2 c2)
  have B0 := B0.trans ((below_alloc w2 (.cells #[.bool b2, .slice A2 n2 c2] 25)).mono B0.size)
  have kn_0 := kn.c0
  have kn_1 := kn.c1
  have kr_0 := kr.1
  have kr_1 := kr.2.1
  have kr_2 := kr.2.2.1
  have kr_3 := kr.2.2.2.1
  have kr_4 := kr.2.2.2.2.1
  have kr_5 := kr.2.2.2.2.2
  go_wp2_with fail
  refine (HR.out _).mono ?_
  clear kn_0 kn_1 kr_0 kr_1 kr_2 kr_3 kr_4 kr_5
  rintro e w3 ⟨v3, rfl, z3, bb⟩
  have kr := kr.below bb
  have z2 := z2.below bb
  have kn := kn.below bb
  have B0 := B0.trans (bb.mono B0.size)
  clear bb
  obtain ⟨A3, n3, c3, rfl, _, _⟩ := z3.nm.form
  have kn_0 := kn.c0
  have kn_1 := kn.c1
  have kr_0 := kr.1
  have kr_1 := kr.2.1
  have kr_2 := kr.2.2.1
  have kr_3 := kr.2.2.2.1
  have kr_4 := kr.2.2.2.2.1
  have kr_5 := kr.2.2.2.2.2
  go_wp2_with fail
  refine (iszero_n z3.nm true rfl).mono ?_
  clear kn_0 kn_1 kr_0 kr_1 kr_2 kr_3 kr_4 kr_5
  rintro e w4 ⟨rfl, bb⟩
  have kr := kr.below bb
  have z2 := z2.below bb
  have kn := kn.below bb
  have z3 := z3.below bb
  have B0 := B0.trans (bb.mono B0.size)
  clear bb
  have kn_0 := kn.c0
  have kn_1 := kn.c1
  have kr_0 := kr.1
  have kr_1 := kr.2.1
  have kr_2 := kr.2.2.1
  have kr_3 := kr.2.2.2.1
  have kr_4 := kr.2.2.2.2.1
  have kr_5 := kr.2.2.2.2.2
  go_wp2
  refine bodyPost_ret (v := .tuple #[.agg #[.bool false, .slice none 0 0, .slice none 0 0], .int .i64 2]) (by simp [results, Tryd.results27, go_sem, kr_0, kr_1, kr_2]) rfl ⟨rfl, below_ret3 B0 (by omega) _ _ _⟩
set_option maxRecDepth 20000 in
set_option maxHeartbeats 2000000 in
theorem qparse_x1 (s : ByteArray) (w : World) (p r : ByteArray) (hc : ∀ w, Calls Tryd.prog 52 #[.string s, .string ⟨#[47]⟩] w (CutEnd p r true w)) (z : Int) (hp : ∀ w, Calls Tryd.prog 53 #[.string p] w (PInt z w)) (d : Nat) (hr : ∀ w, Calls Tryd.prog 55 #[.string r] w (PNEnd d 200 w)) (h0 : d = 1) : Calls Tryd.prog 27 #[.string s] w (PQErr 2 w) := by
  have HC := Lib.hid hc
  clear hc
  have HP := Lib.hid hp
  clear hp
  have HR := Lib.hid hr
  clear hr
  subst h0
  have B0 := below_a1 w (.cells #[.bool false, .slice none 0 0, .slice none 0 0] 27)
  have kr := (Rq.new w (w.heap.size) (by simp))
  go_enter Tryd.func27, Tryd.ntmps27
  have kr_0 := kr.1
  have kr_1 := kr.2.1
  have kr_2 := kr.2.2.1
  have kr_3 := kr.2.2.2.1
  have kr_4 := kr.2.2.2.2.1
  have kr_5 := kr.2.2.2.2.2
  go_wp2_with fail
  refine (HC.out _).mono ?_
  clear kr_0 kr_1 kr_2 kr_3 kr_4 kr_5
  rintro e w1 ⟨rfl, bb⟩
  have kr := kr.below bb
  have B0 := B0.trans (bb.mono B0.size)
  clear bb
  have kr_0 := kr.1
  have kr_1 := kr.2.1
  have kr_2 := kr.2.2.1
  have kr_3 := kr.2.2.2.1
  have kr_4 := kr.2.2.2.2.1
  have kr_5 := kr.2.2.2.2.2
  go_wp2_with fail
  refine (HP.out _).mono ?_
  clear kr_0 kr_1 kr_2 kr_3 kr_4 kr_5
  rintro e w2 ⟨v2, rfl, z2, bb⟩
  have kr := kr.below bb
  have B0 := B0.trans (bb.mono B0.size)
  clear bb
  obtain ⟨b2, A2, n2, c2, rfl, z2⟩ := z2.cells
  have lkr_w2 := kr.apart.1
  have B0_w2 := B0
  have kr_w2 := kr
  have kr_w2_0 := kr.1
  have kr_w2_1 := kr.2.1
  have kr_w2_2 := kr.2.2.1
  have kr_w2_3 := kr.2.2.2.1
  have kr_w2_4 := kr.2.2.2.2.1
  have kr_w2_5 := kr.2.2.2.2.2
  have kr := kr.below (below_alloc w2 (.cells #[.bool b2, .slice A2 n2 c2] 25))
  have z2 := z2.below (below_alloc w2 (.cells #[.bool b2, .slice A2 n2 c2] 25))
  have kn := Bx.new w2 (w2.heap.size) (by simp) (.bool b2) (.slice A2 n2 c2)
  have B0 := B0.trans ((below_alloc w2 (.cells #[.bool b2, .slice A2 n2 c2] 25)).mono B0.size)
  have kn_0 := kn.c0
  have kn_1 := kn.c1
  have kr_0 := kr.1
  have kr_1 := kr.2.1
  have kr_2 := kr.2.2.1
  have kr_3 := kr.2.2.2.1
  have kr_4 := kr.2.2.2.2.1
  have kr_5 := kr.2.2.2.2.2
  go_wp2_with fail
  refine (HR.out _).mono ?_
  clear kn_0 kn_1 kr_0 kr_1 kr_2 kr_3 kr_4 kr_5
  rintro e w3 ⟨v3, rfl, z3, bb⟩
  have kr := kr.below bb
  have z2 := z2.below bb
  have kn := kn.below bb
  have B0 := B0.trans (bb.mono B0.size)
  clear bb
  obtain ⟨A3, n3, c3, rfl, _, _⟩ := z3.nm.form
  have kn_0 := kn.c0
  have kn_1 := kn.c1
  have kr_0 := kr.1
  have kr_1 := kr.2.1
  have kr_2 := kr.2.2.1
  have kr_3 := kr.2.2.2.1
  have kr_4 := kr.2.2.2.2.1
  have kr_5 := kr.2.2.2.2.2
  go_wp2_with fail
  refine (iszero_n z3.nm false rfl).mono ?_
  clear kn_0 kn_1 kr_0 kr_1 kr_2 kr_3 kr_4 kr_5
  rintro e w4 ⟨rfl, bb⟩
  have kr := kr.below bb
  have z2 := z2.below bb
  have kn := kn.below bb
  have z3 := z3.below bb
  have B0 := B0.trans (bb.mono B0.size)
  clear bb
  have kn_0 := kn.c0
  have kn_1 := kn.c1
  have kr_0 := kr.1
  have kr_1 := kr.2.1
  have kr_2 := kr.2.2.1
  have kr_3 := kr.2.2.2.1
  have kr_4 := kr.2.2.2.2.1
  have kr_5 := kr.2.2.2.2.2
  go_wp2_with fail
  refine (isone_n z3.nm true rfl).mono ?_
  clear kn_0 kn_1 kr_0 kr_1 kr_2 kr_3 kr_4 kr_5
  rintro e w5 ⟨rfl, bb⟩
  have kr := kr.below bb
  have z2 := z2.below bb
  have kn := kn.below bb
  have z3 := z3.below bb
  have B0 := B0.trans (bb.mono B0.size)
  clear bb
  have kn_0 := kn.c0
  have kn_1 := kn.c1
  have kr_0 := kr.1
  have kr_1 := kr.2.1
  have kr_2 := kr.2.2.1
  have kr_3 := kr.2.2.2.1
  have kr_4 := kr.2.2.2.2.1
  have kr_5 := kr.2.2.2.2.2
  go_wp2
  refine bodyPost_ret (v := .tuple #[.agg #[.bool false, .slice none 0 0, .slice none 0 0], .int .i64 2]) (by simp [results, Tryd.results27, go_sem, kr_0, kr_1, kr_2]) rfl ⟨rfl, below_ret3 B0 (by omega) _ _ _⟩
set_option maxRecDepth 20000 in
set_option maxHeartbeats 2000000 in
theorem qparse_xg (s : ByteArray) (w : World) (p r : ByteArray) (hc : ∀ w, Calls Tryd.prog 52 #[.string s, .string ⟨#[47]⟩] w (CutEnd p r true w)) (z : Int) (hp : ∀ w, Calls Tryd.prog 53 #[.string p] w (PInt z w)) (d : Nat) (hr : ∀ w, Calls Tryd.prog 55 #[.string r] w (PNEnd d 200 w)) (h0 : decide (d = 0) = false) (h1 : decide (d = 1) = false) (hg : decide (Nat.gcd z.natAbs d = 1) = false) : Calls Tryd.prog 27 #[.string s] w (PQErr 2 w) := by
  have HC := Lib.hid hc
  clear hc
  have HP := Lib.hid hp
  clear hp
  have HR := Lib.hid hr
  clear hr
  have H0 := Lib.hid h0
  clear h0
  have H1 := Lib.hid h1
  clear h1
  have HG := Lib.hid hg
  clear hg
  have B0 := below_a1 w (.cells #[.bool false, .slice none 0 0, .slice none 0 0] 27)
  have kr := (Rq.new w (w.heap.size) (by simp))
  go_enter Tryd.func27, Tryd.ntmps27
  have kr_0 := kr.1
  have kr_1 := kr.2.1
  have kr_2 := kr.2.2.1
  have kr_3 := kr.2.2.2.1
  have kr_4 := kr.2.2.2.2.1
  have kr_5 := kr.2.2.2.2.2
  go_wp2_with fail
  refine (HC.out _).mono ?_
  clear kr_0 kr_1 kr_2 kr_3 kr_4 kr_5
  rintro e w1 ⟨rfl, bb⟩
  have kr := kr.below bb
  have B0 := B0.trans (bb.mono B0.size)
  clear bb
  have kr_0 := kr.1
  have kr_1 := kr.2.1
  have kr_2 := kr.2.2.1
  have kr_3 := kr.2.2.2.1
  have kr_4 := kr.2.2.2.2.1
  have kr_5 := kr.2.2.2.2.2
  go_wp2_with fail
  refine (HP.out _).mono ?_
  clear kr_0 kr_1 kr_2 kr_3 kr_4 kr_5
  rintro e w2 ⟨v2, rfl, z2, bb⟩
  have kr := kr.below bb
  have B0 := B0.trans (bb.mono B0.size)
  clear bb
  obtain ⟨b2, A2, n2, c2, rfl, z2⟩ := z2.cells
  have lkr_w2 := kr.apart.1
  have B0_w2 := B0
  have kr_w2 := kr
  have kr_w2_0 := kr.1
  have kr_w2_1 := kr.2.1
  have kr_w2_2 := kr.2.2.1
  have kr_w2_3 := kr.2.2.2.1
  have kr_w2_4 := kr.2.2.2.2.1
  have kr_w2_5 := kr.2.2.2.2.2
  have kr := kr.below (below_alloc w2 (.cells #[.bool b2, .slice A2 n2 c2] 25))
  have z2 := z2.below (below_alloc w2 (.cells #[.bool b2, .slice A2 n2 c2] 25))
  have kn := Bx.new w2 (w2.heap.size) (by simp) (.bool b2) (.slice A2 n2 c2)
  have B0 := B0.trans ((below_alloc w2 (.cells #[.bool b2, .slice A2 n2 c2] 25)).mono B0.size)
  have kn_0 := kn.c0
  have kn_1 := kn.c1
  have kr_0 := kr.1
  have kr_1 := kr.2.1
  have kr_2 := kr.2.2.1
  have kr_3 := kr.2.2.2.1
  have kr_4 := kr.2.2.2.2.1
  have kr_5 := kr.2.2.2.2.2
  go_wp2_with fail
  refine (HR.out _).mono ?_
  clear kn_0 kn_1 kr_0 kr_1 kr_2 kr_3 kr_4 kr_5
  rintro e w3 ⟨v3, rfl, z3, bb⟩
  have kr := kr.below bb
  have z2 := z2.below bb
  have kn := kn.below bb
  have B0 := B0.trans (bb.mono B0.size)
  clear bb
  obtain ⟨A3, n3, c3, rfl, _, _⟩ := z3.nm.form
  have kn_0 := kn.c0
  have kn_1 := kn.c1
  have kr_0 := kr.1
  have kr_1 := kr.2.1
  have kr_2 := kr.2.2.1
  have kr_3 := kr.2.2.2.1
  have kr_4 := kr.2.2.2.2.1
  have kr_5 := kr.2.2.2.2.2
  go_wp2_with fail
  refine (iszero_n z3.nm false H0.out).mono ?_
  clear kn_0 kn_1 kr_0 kr_1 kr_2 kr_3 kr_4 kr_5
  rintro e w4 ⟨rfl, bb⟩
  have kr := kr.below bb
  have z2 := z2.below bb
  have kn := kn.below bb
  have z3 := z3.below bb
  have B0 := B0.trans (bb.mono B0.size)
  clear bb
  have kn_0 := kn.c0
  have kn_1 := kn.c1
  have kr_0 := kr.1
  have kr_1 := kr.2.1
  have kr_2 := kr.2.2.1
  have kr_3 := kr.2.2.2.1
  have kr_4 := kr.2.2.2.2.1
  have kr_5 := kr.2.2.2.2.2
  go_wp2_with fail
  refine (isone_n z3.nm false H1.out).mono ?_
  clear kn_0 kn_1 kr_0 kr_1 kr_2 kr_3 kr_4 kr_5
  rintro e w5 ⟨rfl, bb⟩
  have kr := kr.below bb
  have z2 := z2.below bb
  have kn := kn.below bb
  have z3 := z3.below bb
  have B0 := B0.trans (bb.mono B0.size)
  clear bb
  obtain ⟨mz, nz, hz, _⟩ := z2.parts
  have hzn : z.natAbs = mz := by rw [hz]; exact RatN.sgn_abs _ _
  have HG' : Hid (decide (Nat.gcd mz d = 1) = false) := by show _ = _; rw [← hzn]; exact HG.out
  clear hz hzn
  have kn_0 := kn.c0
  have kn_1 := kn.c1
  have kr_0 := kr.1
  have kr_1 := kr.2.1
  have kr_2 := kr.2.2.1
  have kr_3 := kr.2.2.2.1
  have kr_4 := kr.2.2.2.2.1
  have kr_5 := kr.2.2.2.2.2
  go_wp2_with fail
  refine (gcd_n nz.nm z3.nm (by omega) (by omega)).mono ?_
  clear kn_0 kn_1 kr_0 kr_1 kr_2 kr_3 kr_4 kr_5
  rintro e w6 ⟨v4, rfl, z4, bb⟩
  have kr := kr.below bb
  have z2 := z2.below bb
  have kn := kn.below bb
  have z3 := z3.below bb
  have nz := nz.below bb
  have B0 := B0.trans (bb.mono B0.size)
  clear bb
  obtain ⟨A4, n4, c4, rfl, _, _⟩ := z4.nm.form
  have kn_0 := kn.c0
  have kn_1 := kn.c1
  have kr_0 := kr.1
  have kr_1 := kr.2.1
  have kr_2 := kr.2.2.1
  have kr_3 := kr.2.2.2.1
  have kr_4 := kr.2.2.2.2.1
  have kr_5 := kr.2.2.2.2.2
  go_wp2_with fail
  refine (isone_n z4.nm false HG'.out).mono ?_
  clear kn_0 kn_1 kr_0 kr_1 kr_2 kr_3 kr_4 kr_5
  rintro e w7 ⟨rfl, bb⟩
  have kr := kr.below bb
  have z2 := z2.below bb
  have kn := kn.below bb
  have z3 := z3.below bb
  have nz := nz.below bb
  have z4 := z4.below bb
  have B0 := B0.trans (bb.mono B0.size)
  clear bb
  have kn_0 := kn.c0
  have kn_1 := kn.c1
  have kr_0 := kr.1
  have kr_1 := kr.2.1
  have kr_2 := kr.2.2.1
  have kr_3 := kr.2.2.2.1
  have kr_4 := kr.2.2.2.2.1
  have kr_5 := kr.2.2.2.2.2
  go_wp2
  refine bodyPost_ret (v := .tuple #[.agg #[.bool false, .slice none 0 0, .slice none 0 0], .int .i64 2]) (by simp [results, Tryd.results27, go_sem, kr_0, kr_1, kr_2]) rfl ⟨rfl, below_ret3 B0 (by omega) _ _ _⟩
set_option maxRecDepth 20000 in
set_option maxHeartbeats 2000000 in
theorem qparse_ok (s : ByteArray) (w : World) (p r : ByteArray) (hc : ∀ w, Calls Tryd.prog 52 #[.string s, .string ⟨#[47]⟩] w (CutEnd p r true w)) (z : Int) (hp : ∀ w, Calls Tryd.prog 53 #[.string p] w (PInt z w)) (d : Nat) (hr : ∀ w, Calls Tryd.prog 55 #[.string r] w (PNEnd d 200 w)) (h0 : decide (d = 0) = false) (h1 : decide (d = 1) = false) (hg : decide (Nat.gcd z.natAbs d = 1) = true) (h2 : d ≠ 0) : Calls Tryd.prog 27 #[.string s] w (PQEnd (mkRat z d) w) := by
  have HC := Lib.hid hc
  clear hc
  have HP := Lib.hid hp
  clear hp
  have HR := Lib.hid hr
  clear hr
  have H0 := Lib.hid h0
  clear h0
  have H1 := Lib.hid h1
  clear h1
  have HG := Lib.hid hg
  clear hg
  have hl := RatN.low_id z d h2 (by simpa using HG.out)
  have HL := Lib.hid hl
  clear hl h2
  have B0 := below_a1 w (.cells #[.bool false, .slice none 0 0, .slice none 0 0] 27)
  have kr := (Rq.new w (w.heap.size) (by simp))
  go_enter Tryd.func27, Tryd.ntmps27
  have kr_0 := kr.1
  have kr_1 := kr.2.1
  have kr_2 := kr.2.2.1
  have kr_3 := kr.2.2.2.1
  have kr_4 := kr.2.2.2.2.1
  have kr_5 := kr.2.2.2.2.2
  go_wp2_with fail
  refine (HC.out _).mono ?_
  clear kr_0 kr_1 kr_2 kr_3 kr_4 kr_5
  rintro e w1 ⟨rfl, bb⟩
  have kr := kr.below bb
  have B0 := B0.trans (bb.mono B0.size)
  clear bb
  have kr_0 := kr.1
  have kr_1 := kr.2.1
  have kr_2 := kr.2.2.1
  have kr_3 := kr.2.2.2.1
  have kr_4 := kr.2.2.2.2.1
  have kr_5 := kr.2.2.2.2.2
  go_wp2_with fail
  refine (HP.out _).mono ?_
  clear kr_0 kr_1 kr_2 kr_3 kr_4 kr_5
  rintro e w2 ⟨v2, rfl, z2, bb⟩
  have kr := kr.below bb
  have B0 := B0.trans (bb.mono B0.size)
  clear bb
  obtain ⟨b2, A2, n2, c2, rfl, z2⟩ := z2.cells
  have lkr_w2 := kr.apart.1
  have B0_w2 := B0
  have kr_w2 := kr
  have kr_w2_0 := kr.1
  have kr_w2_1 := kr.2.1
  have kr_w2_2 := kr.2.2.1
  have kr_w2_3 := kr.2.2.2.1
  have kr_w2_4 := kr.2.2.2.2.1
  have kr_w2_5 := kr.2.2.2.2.2
  have kr := kr.below (below_alloc w2 (.cells #[.bool b2, .slice A2 n2 c2] 25))
  have z2 := z2.below (below_alloc w2 (.cells #[.bool b2, .slice A2 n2 c2] 25))
  have kn := Bx.new w2 (w2.heap.size) (by simp) (.bool b2) (.slice A2 n2 c2)
  have B0 := B0.trans ((below_alloc w2 (.cells #[.bool b2, .slice A2 n2 c2] 25)).mono B0.size)
  have kn_0 := kn.c0
  have kn_1 := kn.c1
  have kr_0 := kr.1
  have kr_1 := kr.2.1
  have kr_2 := kr.2.2.1
  have kr_3 := kr.2.2.2.1
  have kr_4 := kr.2.2.2.2.1
  have kr_5 := kr.2.2.2.2.2
  go_wp2_with fail
  refine (HR.out _).mono ?_
  clear kn_0 kn_1 kr_0 kr_1 kr_2 kr_3 kr_4 kr_5
  rintro e w3 ⟨v3, rfl, z3, bb⟩
  have kr := kr.below bb
  have z2 := z2.below bb
  have kn := kn.below bb
  have B0 := B0.trans (bb.mono B0.size)
  clear bb
  obtain ⟨A3, n3, c3, rfl, _, _⟩ := z3.nm.form
  have kn_0 := kn.c0
  have kn_1 := kn.c1
  have kr_0 := kr.1
  have kr_1 := kr.2.1
  have kr_2 := kr.2.2.1
  have kr_3 := kr.2.2.2.1
  have kr_4 := kr.2.2.2.2.1
  have kr_5 := kr.2.2.2.2.2
  go_wp2_with fail
  refine (iszero_n z3.nm false H0.out).mono ?_
  clear kn_0 kn_1 kr_0 kr_1 kr_2 kr_3 kr_4 kr_5
  rintro e w4 ⟨rfl, bb⟩
  have kr := kr.below bb
  have z2 := z2.below bb
  have kn := kn.below bb
  have z3 := z3.below bb
  have B0 := B0.trans (bb.mono B0.size)
  clear bb
  have kn_0 := kn.c0
  have kn_1 := kn.c1
  have kr_0 := kr.1
  have kr_1 := kr.2.1
  have kr_2 := kr.2.2.1
  have kr_3 := kr.2.2.2.1
  have kr_4 := kr.2.2.2.2.1
  have kr_5 := kr.2.2.2.2.2
  go_wp2_with fail
  refine (isone_n z3.nm false H1.out).mono ?_
  clear kn_0 kn_1 kr_0 kr_1 kr_2 kr_3 kr_4 kr_5
  rintro e w5 ⟨rfl, bb⟩
  have kr := kr.below bb
  have z2 := z2.below bb
  have kn := kn.below bb
  have z3 := z3.below bb
  have B0 := B0.trans (bb.mono B0.size)
  clear bb
  obtain ⟨mz, nz, hz, _⟩ := z2.parts
  have hzn : z.natAbs = mz := by rw [hz]; exact RatN.sgn_abs _ _
  have HG' : Hid (decide (Nat.gcd mz d = 1) = true) := by show _ = _; rw [← hzn]; exact HG.out
  clear hz hzn
  have kn_0 := kn.c0
  have kn_1 := kn.c1
  have kr_0 := kr.1
  have kr_1 := kr.2.1
  have kr_2 := kr.2.2.1
  have kr_3 := kr.2.2.2.1
  have kr_4 := kr.2.2.2.2.1
  have kr_5 := kr.2.2.2.2.2
  go_wp2_with fail
  refine (gcd_n nz.nm z3.nm (by omega) (by omega)).mono ?_
  clear kn_0 kn_1 kr_0 kr_1 kr_2 kr_3 kr_4 kr_5
  rintro e w6 ⟨v4, rfl, z4, bb⟩
  have kr := kr.below bb
  have z2 := z2.below bb
  have kn := kn.below bb
  have z3 := z3.below bb
  have nz := nz.below bb
  have B0 := B0.trans (bb.mono B0.size)
  clear bb
  obtain ⟨A4, n4, c4, rfl, _, _⟩ := z4.nm.form
  have kn_0 := kn.c0
  have kn_1 := kn.c1
  have kr_0 := kr.1
  have kr_1 := kr.2.1
  have kr_2 := kr.2.2.1
  have kr_3 := kr.2.2.2.1
  have kr_4 := kr.2.2.2.2.1
  have kr_5 := kr.2.2.2.2.2
  go_wp2_with fail
  refine (isone_n z4.nm true HG'.out).mono ?_
  clear kn_0 kn_1 kr_0 kr_1 kr_2 kr_3 kr_4 kr_5
  rintro e w7 ⟨rfl, bb⟩
  have kr := kr.below bb
  have z2 := z2.below bb
  have kn := kn.below bb
  have z3 := z3.below bb
  have nz := nz.below bb
  have z4 := z4.below bb
  have B0 := B0.trans (bb.mono B0.size)
  clear bb
  have kn_0 := kn.c0
  have kn_1 := kn.c1
  have kr_0 := kr.1
  have kr_1 := kr.2.1
  have kr_2 := kr.2.2.1
  have kr_3 := kr.2.2.2.1
  have kr_4 := kr.2.2.2.2.1
  have kr_5 := kr.2.2.2.2.2
  go_wp2
  refine bodyPost_ret (v := .tuple #[.agg #[.bool b2, .slice A2 n2 c2, .slice A3 n3 c3], .int .i64 0]) (by simp [results, Tryd.results27, go_sem, kr_0, kr_1, kr_2]) rfl ⟨_, _, _, _, _, _, _, rfl, Qz.mk ((z2.wide (by omega)).ret3 kr _ _ _) ((z3.wide' (by omega)).ret3 kr _ _ _) HL.out.1.symm HL.out.2.symm, below_ret3 B0 (by omega) _ _ _⟩
end Go.Proofs.YtfdildganfjahaaDoor
