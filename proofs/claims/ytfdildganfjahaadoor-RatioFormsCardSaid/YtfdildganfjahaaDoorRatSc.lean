/-
  The walk of garmentlaw03.scaled: the same value in another form.
-/
import Derived.Test.YtfdildganfjahaaDoorRatC
import Derived.Test.YtfdildganfjahaaDoorJRef
namespace Go.Proofs.YtfdildganfjahaaDoor
open Go.RowKit
attribute [local go_sem ↓] Go.wp_at_zero Go.wp_at_succ
set_option linter.unusedVariables false

/-- A call returns a ratio of value x, in some form. -/
def VEnd (x : Rat) (k j : Nat) (w : World) (e : Ending) (w' : World) : Prop := ∃ b A n c B m c', e = .returned (.agg #[.bool b, .slice A n c, .slice B m c']) ∧ Qv w' (.agg #[.bool b, .slice A n c, .slice B m c']) x k j ∧ Below w.heap.size w w'
theorem Row.keep {w w' : World} {base g n c : Nat} {l : List Nat} (h : Row w base (.slice (some ⟨g, 0, none⟩) n c) l) (hb : Below w.heap.size w w') : Row w' base (.slice (some ⟨g, 0, none⟩) n c) l := by
  have hl := h.lt g rfl
  obtain ⟨h1, h2⟩ := h
  refine ⟨h1, ?_⟩
  rcases h2 with ⟨h, _⟩ | ⟨g', cap, cur, e, hbs, hh, rest⟩
  · cases h
  · injection e with e1 e2 e3
    injection e1 with e1
    injection e1 with e1
    subst e1
    exact .inr ⟨g, cap, cur, by rw [e2, e3], hbs, (hb.block g hl.2).trans hh, rest⟩
theorem lit_cel2 (W : World) : Cel (W.alloc (.cells #[.int .u32 0, .int .u32 0] 28)) (fun _ => True) (some ⟨W.heap.size, 0, none⟩) [0, 0] := fun _ => ⟨_, 0, rfl, trivial, (Own.new W 28 [0, 0]).cel⟩
theorem val_zeros (l : List Nat) (k : Nat) : Num.val (l ++ List.replicate k 0) = Num.val l := by rw [Num.val_append, Num.val_replicate]; simp
theorem lim_zeros {l : List Nat} (h : Num.Lim l) (k : Nat) : Num.Lim (l ++ List.replicate k 0) := h.append (Num.Lim.replicate k)
theorem mk_scale (b : Bool) (a d f : Nat) (hf : f ≠ 0) : mkRat (sgn b (a * f)) (d * f) = mkRat (sgn b a) d := by
  have e : sgn b (a * f) = sgn b a * (f : Int) := by cases b <;> simp [sgn, Int.neg_mul]
  rw [e]
  exact Rat.mkRat_mul_right hf
theorem rmul_l {w : World} {va vb : Value} {a b k j : Nat} (ha : Nm w va a k) (hb : Nm w vb b j) (hk : k ≤ 1000) (hj : j ≤ 1000) : Calls Tryd.prog 30 #[va, vb] w (NEnd (a * b) (k + j) w) := (rmul_n ha hb hk hj).mono fun _ _ h => h.fin
set_option maxRecDepth 20000 in
set_option maxHeartbeats 4000000 in
theorem scaled_q {w : World} {b : Bool} {A : Option Addr} {n c : Nat} {B : Option Addr} {m c' : Nat} {x : Rat} (ha : Qv w (.agg #[.bool b, .slice A n c, .slice B m c']) x n m) (hn : n ≤ 100) (hm : m ≤ 100) (f : Nat) (hf : f < 4294967296) :
    Calls Tryd.prog 10 #[.agg #[.bool b, .slice A n c, .slice B m c'], .int .u32 (f : Int)] w (VEnd x (n + 3) (m + 4) w) := by
  obtain ⟨i0, hi, hz0, hz1, hz2⟩ := info_parts info_u32
  obtain ⟨b1, A1, n1, c1, B1, m1, d1, z, d, e, hiv, hd, hx⟩ := ha
  simp only [Value.agg.injEq, Array.mk.injEq, List.cons.injEq, Value.bool.injEq, Value.slice.injEq, and_true] at e
  obtain ⟨rfl, ⟨rfl, rfl, rfl⟩, rfl, rfl, rfl⟩ := e
  obtain ⟨b', a, ⟨ha, rfl⟩, rfl⟩ := hiv.nm_of
  have hx' : mkRat (sgn b (a * (f + 1))) (d * (f + 1)) = x := by rw [hx]; exact mk_scale b a d (f + 1) (by omega)
  have HX := Lib.hid hx'
  have hwf0 : IntKind.u64.wrap (f : Int) = (f : Int) := by rw [IntKind.wrap_u64]; omega
  have hwf : IntKind.u64.wrap ((f : Int) + 1) = (f : Int) + 1 := by rw [IntKind.wrap_u64]; omega
  clear hx hx' hiv
  have B0 := below_a2 w (.cells #[.bool b, .slice A n c, .slice B m c'] 27) (.cells #[.bool false, .slice none 0 0, .slice none 0 0] 27)
  have ha := ha.below B0
  have hd := hd.below B0
  have ka := ((Bq.new w (w.heap.size) (by simp) (.bool b) (.slice A n c) (.slice B m c')).below (below_alloc (w.alloc (.cells #[.bool b, .slice A n c, .slice B m c'] 27)) (.cells #[.bool false, .slice none 0 0, .slice none 0 0] 27)))
  have kr := (Rq.new (w.alloc (.cells #[.bool b, .slice A n c, .slice B m c'] 27)) (w.heap.size + 1) (by simp))
  go_enter Tryd.func10, Tryd.ntmps10
  go_wp2_with fail
  refine (rof_z ((f : Int) + 1) (f + 1) (by push_cast; rfl) (by omega)).mono ?_
  rintro e w1 ⟨v1, rfl, z1, bb⟩
  obtain ⟨A3, n3, c3, rfl, hn3, _⟩ := z1.nm.form
  have ha := ha.below bb
  have hd := hd.below bb
  have ka := ka.below bb
  have kr := kr.below bb
  have B0 := B0.trans (bb.mono B0.size)
  clear bb hwf hwf0
  have ka_0 := ka.c0
  have ka_1 := ka.c1
  have ka_2 := ka.c2
  have hB1 := B0.size
  have kA := ka.below (below_alloc w1 (.cells #[] 28))
  have kA_0 := kA.c0
  have kA_1 := kA.c1
  have kA_2 := kA.c2
  -- the numerator
  go_wp2_with fail
  refine (rmul_l (ha.below (below_alloc _ _)) (z1.nm.below (below_alloc _ _)) (by omega) (by omega)).mono ?_
  rintro e w2 ⟨v2, rfl, z2, bb⟩
  obtain ⟨A4, n4, c4, rfl, hn4, _⟩ := z2.nm.form
  obtain ⟨l2, rd2, hv2, hl2⟩ := z2.nm
  have hlen2 := rd2.addr
  have hL2 := rd2.lim
  obtain ⟨A9, n9, c9, e9, Hn9, _, _, _, hcel2⟩ := rd2.open_
  simp only [Value.slice.injEq] at e9
  obtain ⟨rfl, rfl, rfl⟩ := e9
  have C2 := (below_alloc w1 (.cells #[] 28)).trans (bb.mono (below_alloc w1 (.cells #[] 28)).size)
  have hrow : Row w2 w1.heap.size _ [] := (Row.new w1).keep bb
  have HV2 := Lib.hid hv2
  have HL2 := Lib.hid hL2
  have HLEN2 := Lib.hid hlen2
  have hs2 := C2.size
  clear bb ka_0 ka_1 ka_2 kA kA_0 kA_1 kA_2 hv2 hL2 rd2 z2 hlen2
  go_wp2_with (at_builtin; refine wpList_append_u32 rfl (.tmp 12) (.tmp 17) 23 rfl w1.heap.size 28 i0 Tryd.underlying23 hi hz0 hz1 hz2 _ [] rfl hrow _ n4 c4 l2 rfl HLEN2.out (fun _ => True) hcel2 (by simp; omega) hs2 ?_)
  intro v3 w3 hrow3 hg3
  have C3 := C2.grown hg3 hs2 (fun k hk => (hrow.lt k hk).1)
  have hs3 := C3.size
  have hrow3 : Row w3 w1.heap.size v3 l2 := hrow3
  clear hrow hg3 C2 hcel2
  have hs3' : w1.heap.size ≤ (w3.alloc (.cells #[.int .u32 0] 28)).heap.size := by simp; omega
  have hb3 : l2.length + 1 ≤ 1000000 := by have := HLEN2.out; omega
  have hrow3' : (w3.alloc (.cells #[.int .u32 0] 28)).ownsRow w1.heap.size 28 1 v3 l2.length (l2.map Lv) := World.ownsRow.alloc hrow3 _
  go_wp2_with (at_builtin; refine wpList_append_u32 rfl (.tmp 18) (.tmp 19) 23 rfl w1.heap.size 28 i0 Tryd.underlying23 hi hz0 hz1 hz2 _ l2 rfl hrow3' _ 1 1 [0] rfl rfl (fun _ => True) (lit_cel w3 0 _ rfl) hb3 hs3' ?_)
  intro v4 w4 hrow4 hg4
  have C4 := (C3.trans ((below_alloc w3 (.cells #[.int .u32 0] 28)).mono hs3)).grown hg4 hs3' (fun k hk => (hrow3'.lt k hk).1)
  have hrow4 : Row w4 w1.heap.size v4 (l2 ++ [0]) := by unfold Row; simpa using hrow4
  clear hrow3 hrow3' hg4 C3 hs3 hs3' hb3
  obtain ⟨A5, c5, rfl, hc5, hcb5⟩ := hrow4.open_
  have hA : Nm w4 (.slice A5 (l2 ++ [0]).length c5) (a * (f + 1)) (n + 3) := by
    refine ⟨l2 ++ [0], (hrow4.rd (lim_zeros HL2.out 1)).mono (fun _ _ => trivial), ?_, by have := HLEN2.out; simp; omega⟩
    rw [← HV2.out]; exact val_zeros l2 1
  clear hrow4 hc5 hcb5
  have ha := ha.below C4
  have hd := hd.below C4
  have ka := ka.below C4
  have kr := kr.below C4
  have z1 := z1.below C4
  have B0 := B0.trans (C4.mono hB1)
  have hB4 := B0.size
  clear C4
  have kA := ka.below (below_alloc w4 (.cells #[] 28))
  have kA_0 := kA.c0
  have kA_1 := kA.c1
  have kA_2 := kA.c2
  -- the denominator
  go_wp2_with fail
  refine (rmul_l (hd.below (below_alloc _ _)) (z1.nm.below (below_alloc _ _)) (by omega) (by omega)).mono ?_
  rintro e w5 ⟨v5, rfl, z5, bb⟩
  obtain ⟨A6, n6, c6, rfl, hn6, _⟩ := z5.nm.form
  obtain ⟨l5, rd5, hv5, hl5⟩ := z5.nm
  have hlen5 := rd5.addr
  have hL5 := rd5.lim
  obtain ⟨A9, n9, c9, e9, Hn9', _, _, _, hcel5⟩ := rd5.open_
  simp only [Value.slice.injEq] at e9
  obtain ⟨rfl, rfl, rfl⟩ := e9
  have C5 := (below_alloc w4 (.cells #[] 28)).trans (bb.mono (below_alloc w4 (.cells #[] 28)).size)
  have hrow : Row w5 w4.heap.size _ [] := (Row.new w4).keep bb
  have HV5 := Lib.hid hv5
  have HL5 := Lib.hid hL5
  have HLEN5 := Lib.hid hlen5
  have hs5 := C5.size
  clear bb kA kA_0 kA_1 kA_2 hv5 hL5 rd5 z5 hlen5
  go_wp2_with (at_builtin; refine wpList_append_u32 rfl (.tmp 21) (.tmp 25) 23 rfl w4.heap.size 28 i0 Tryd.underlying23 hi hz0 hz1 hz2 _ [] rfl hrow _ n6 c6 l5 rfl HLEN5.out (fun _ => True) hcel5 (by simp; omega) hs5 ?_)
  intro v6 w6 hrow6 hg6
  have C6 := C5.grown hg6 hs5 (fun k hk => (hrow.lt k hk).1)
  have hs6 := C6.size
  have hrow6 : Row w6 w4.heap.size v6 l5 := hrow6
  clear hrow hg6 C5 hcel5
  have hs6' : w4.heap.size ≤ (w6.alloc (.cells #[.int .u32 0, .int .u32 0] 28)).heap.size := by simp; omega
  have hb6 : l5.length + 2 ≤ 1000000 := by have := HLEN5.out; omega
  have hrow6' : (w6.alloc (.cells #[.int .u32 0, .int .u32 0] 28)).ownsRow w4.heap.size 28 1 v6 l5.length (l5.map Lv) := World.ownsRow.alloc hrow6 _
  go_wp2_with (at_builtin; refine wpList_append_u32 rfl (.tmp 26) (.tmp 27) 23 rfl w4.heap.size 28 i0 Tryd.underlying23 hi hz0 hz1 hz2 _ l5 rfl hrow6' _ 2 2 [0, 0] rfl rfl (fun _ => True) (lit_cel2 w6) hb6 hs6' ?_)
  intro v7 w7 hrow7 hg7
  have C7 := (C6.trans ((below_alloc w6 (.cells #[.int .u32 0, .int .u32 0] 28)).mono hs6)).grown hg7 hs6' (fun k hk => (hrow6'.lt k hk).1)
  have hrow7 : Row w7 w4.heap.size v7 (l5 ++ [0, 0]) := by unfold Row; simpa using hrow7
  clear hrow6 hrow6' hg7 C6 hs6 hs6' hb6
  obtain ⟨A7, c7, rfl, hc7, hcb7⟩ := hrow7.open_
  have hD : Nm w7 (.slice A7 (l5 ++ [0, 0]).length c7) (d * (f + 1)) (m + 4) := by
    refine ⟨l5 ++ [0, 0], (hrow7.rd (lim_zeros HL5.out 2)).mono (fun _ _ => trivial), ?_, by have := HLEN5.out; simp; omega⟩
    rw [← HV5.out]; exact val_zeros l5 2
  clear hrow7 hc7 hcb7
  have hA := hA.below C7
  have ka := ka.below C7
  have kr := kr.below C7
  have B0 := B0.trans (C7.mono hB4)
  clear C7 hd ha z1
  have ka_0 := ka.c0
  have ka_1 := ka.c1
  have ka_2 := ka.c2
  have kr_0 := kr.1
  have kr_1 := kr.2.1
  have kr_2 := kr.2.2.1
  have kr_3 := kr.2.2.2.1
  have kr_4 := kr.2.2.2.2.1
  have kr_5 := kr.2.2.2.2.2
  go_wp2
  refine bodyPost_ret (v := .agg #[.bool b, .slice A5 (l2 ++ [0]).length c5, .slice A7 (l5 ++ [0, 0]).length c7]) (by simp [results, Tryd.results10, go_sem, kr_0, kr_1, kr_2]) rfl ⟨_, _, _, _, _, _, _, rfl, Qv.ret3 (x := x) ⟨_, _, _, _, _, _, _, _, _, rfl, hA.iv b, hD, HX.out.symm⟩ kr _ _ _, below_ret3 B0 (by omega) _ _ _⟩
theorem scaled_z {w : World} {b : Bool} {A : Option Addr} {n c : Nat} {B : Option Addr} {m c' : Nat} {x : Rat} (ha : Qv w (.agg #[.bool b, .slice A n c, .slice B m c']) x n m) (hn : n ≤ 100) (hm : m ≤ 100) (f : Nat) (hf : f < 4294967296) (z : Int) (hz : z = (f : Int)) :
    Calls Tryd.prog 10 #[.agg #[.bool b, .slice A n c, .slice B m c'], .int .u32 z] w (VEnd x (n + 3) (m + 4) w) := by
  subst hz; exact scaled_q ha hn hm f hf
end Go.Proofs.YtfdildganfjahaaDoor
