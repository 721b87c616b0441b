/-
  The walk of garmentlaw06.CodecLists.
-/
import Derived.Test.YtmklladpalcjpaaDoorLawCodecPrefixes
namespace Go.Proofs.YtmklladpalcjpaaDoor
open Go.RowKit Cod
set_option linter.unusedVariables false
theorem ofL_append (a b : List UInt8) : ofL a ++ ofL b = ofL (a ++ b) := by
  have h : (ofL a ++ ofL b).data.toList = a ++ b := by rw [data_append, ofL_data, ofL_data]
  rw [← h, ofL_eq]
/-- Between the rounds: the encodings of the first i elements behind the parenthesis. -/
def LsA (K : List Nd) (u : List UInt8) (i : Nat) (tt : ByteArray) : Prop := ∃ v, encL 11 (K.take i) = .ok v ∧ tt = ofL (40 :: v) ∧ v.length ≤ u.length
theorem LsA.start (K : List Nd) (u : List UInt8) : LsA K u 0 ⟨#[40]⟩ := ⟨[], by rw [List.take_zero, encL], rfl, by simp⟩
theorem LsA.next {K : List Nd} {u : List UInt8} {i : Nat} {tt : ByteArray} {n : Nd} (h : LsA K u i tt) (hu : encL 11 K = .ok u) (hl : u.length ≤ 20000) (hn : K[i]? = some n) : ∃ x, encd n = .ok x ∧ LsA K u (i + 1) (tt ++ ofL x) := by
  obtain ⟨v, h1, rfl, h3⟩ := h
  obtain ⟨v', x, h4, h5, h6⟩ := list_kid (s := []) hu hl i n hn
  rw [h1] at h5
  cases h5
  obtain ⟨u', v'', y, e1, e2, e3, e4⟩ := encL_mem hu i n hn
  rw [h6] at e3
  have e5 := congrArg List.length (Except.ok.inj e3)
  rw [List.length_append, List.length_append] at e5
  exact ⟨x, h4, _, h6, by rw [ofL_append]; rfl, by rw [e4, List.length_append, List.length_append, List.length_append]; omega⟩
theorem LsA.done {K : List Nd} {u : List UInt8} {i : Nat} {tt : ByteArray} (h : LsA K u i tt) (hu : encL 11 K = .ok u) (hi : K.length ≤ i) : tt ++ (⟨#[41]⟩ : ByteArray) = ofL (40 :: (u ++ [41])) := by
  obtain ⟨v, h1, rfl, h3⟩ := h
  rw [List.take_of_length_le hi, hu] at h1
  cases h1
  exact ofL_append (40 :: u) [41]
theorem LsA.size {K : List Nd} {u : List UInt8} {i : Nat} {tt : ByteArray} (h : LsA K u i tt) : tt.size ≤ u.length + 1 := by
  obtain ⟨v, h1, rfl, h3⟩ := h
  rw [ofL_size, List.length_cons]
  omega
set_option maxRecDepth 20000 in
set_option maxHeartbeats 2000000 in
theorem lawcodeclists_walk (w : World) (K : List Nd) (v : Value) (hK : RdS w K v) (ht : Tab w) : Calls Tryd.prog 8 #[v] w (BoolAnd true w) := by
  have B0 := Below.refl w.heap.size w
  have HT := Lib.hid ht
  clear ht
  obtain ⟨A, m, c, rfl, Hm, hmc, hc⟩ : ∃ A m c, v = .slice A m c ∧ Hid (K.length = m) ∧ m ≤ c ∧ c ≤ 9223372036854775807 := by
    obtain ⟨A, c, e, h1, h2, h3⟩ := hK
    exact ⟨A, _, c, e, rfl, h1, h2⟩
  have hx : RdN w (.mk true [] K) (.agg #[.bool true, .string ⟨#[]⟩, .slice A m c]) := RdM.of_parts (t := []) hK (by simp)
  have hx := hx.below (up_1 w (.cells #[.bool true, .string ⟨#[]⟩, .slice A m c] 25))
  have hK := hK.below (up_1 w (.cells #[.bool true, .string ⟨#[]⟩, .slice A m c] 25))
  have HT := Lib.hid (HT.out.below (up_1 w (.cells #[.bool true, .string ⟨#[]⟩, .slice A m c] 25)))
  have B0 := B0.alloc B0.size (.cells #[.bool true, .string ⟨#[]⟩, .slice A m c] 25)
  have qa := Bn.new w (.bool true) (.string ⟨#[]⟩) (.slice A m c) 25
  have qa_0 := qa.1
  have qa_1 := qa.2.1
  have qa_2 := qa.2.2.1
  have HW := Lib.hid (fun v w h => size_walk (.mk true [] K) 10000 10000 v w h (by omega) rfl)
  obtain ⟨q, hq⟩ : ∃ q, min (size (.mk true [] K)) (10000 + 1) = q := ⟨_, rfl⟩
  rw [hq] at HW
  by_cases h20 : 20 < m
  · clear hq
    go_enter Tryd.func8, Tryd.ntmps8
    go_wp2_with (first | (go_at_call 10; (with_reducible refine (example_walk _ HT.out).mono ?_); rintro e w9 ⟨rfl, bb⟩; have HT := Lib.hid (HT.out.below bb); have B0 := B0.trans (bb.mono B0.size); clear bb))
    all_goals go_ret
    all_goals exact ⟨rfl, B0⟩
  · by_cases hbig : 10000 < q
    · clear hq
      go_enter Tryd.func8, Tryd.ntmps8
      go_wp2_with (first | (go_at_call 16; (with_reducible refine (HW.out _ _ hx).mono ?_); rintro e w1 ⟨rfl, bb⟩; have hx := hx.below bb; have hK := hK.below bb; have qa := qa.below bb; have qa_0 := qa.1; have qa_1 := qa.2.1; have qa_2 := qa.2.2.1; have HT := Lib.hid (HT.out.below bb); have B0 := B0.trans (bb.mono B0.size); clear bb) | (go_at_call 10; (with_reducible refine (example_walk _ HT.out).mono ?_); rintro e w9 ⟨rfl, bb⟩; have HT := Lib.hid (HT.out.below bb); have B0 := B0.trans (bb.mono B0.size); clear bb))
      all_goals go_ret
      all_goals exact ⟨rfl, B0⟩
    · have hz : size (.mk true [] K) ≤ 10000 := by omega
      have Hz : Hid (size (.mk true [] K) ≤ 21000) := by show _ ≤ _; omega
      have Hk : Hid (sizeL K ≤ 21000) := by
        rw [size] at hz
        show _ ≤ _
        omega
      clear hq hz
      cases hR : encd (.mk true [] K) with
      | error y =>
        have hy : ((y : Int) != 0) = true := by have := encd_bad hR; simp; omega
        have HR := Lib.hid hR
        clear hR
        go_enter Tryd.func8, Tryd.ntmps8
        go_wp2_with (first | (go_at_call 16; (with_reducible refine (HW.out _ _ hx).mono ?_); rintro e w1 ⟨rfl, bb⟩; have hx := hx.below bb; have hK := hK.below bb; have qa := qa.below bb; have qa_0 := qa.1; have qa_1 := qa.2.1; have qa_2 := qa.2.2.1; have HT := Lib.hid (HT.out.below bb); have B0 := B0.trans (bb.mono B0.size); clear bb) | (go_at_call 15; (with_reducible refine (encode_c hx Hz.out HT.out).mono ?_); rw [HR.out]; rintro e w2 ⟨te, er, rfl, bb, he, hte⟩; subst he; subst hte; have hx := hx.below bb; have hK := hK.below bb; have qa := qa.below bb; have qa_0 := qa.1; have qa_1 := qa.2.1; have qa_2 := qa.2.2.1; have HT := Lib.hid (HT.out.below bb); have B0 := B0.trans (bb.mono B0.size); clear bb) | (go_at_call 10; (with_reducible refine (example_walk _ HT.out).mono ?_); rintro e w9 ⟨rfl, bb⟩; have HT := Lib.hid (HT.out.below bb); have B0 := B0.trans (bb.mono B0.size); clear bb))
        all_goals go_ret
        all_goals exact ⟨rfl, B0⟩
      | ok s0 =>
        have HR := Lib.hid hR
        obtain ⟨u, hu, hs0, hl0, _⟩ := list_ok hR
        obtain ⟨S, hS⟩ : ∃ S, S = ofL s0 := ⟨_, rfl⟩
        have HS := Lib.hid hS
        have HU := Lib.hid hu
        have Hs0 := Lib.hid hs0
        have hul : u.length ≤ 20000 := by rw [hs0] at hl0; simp at hl0; omega
        clear hR hS hu hs0 hl0
        go_enter Tryd.func8, Tryd.ntmps8
        go_wp2_with (first | (go_at_call 16; (with_reducible refine (HW.out _ _ hx).mono ?_); rintro e w1 ⟨rfl, bb⟩; have hx := hx.below bb; have hK := hK.below bb; have qa := qa.below bb; have qa_0 := qa.1; have qa_1 := qa.2.1; have qa_2 := qa.2.2.1; have HT := Lib.hid (HT.out.below bb); have B0 := B0.trans (bb.mono B0.size); clear bb) | (go_at_call 15; (with_reducible refine (encode_c hx Hz.out HT.out).mono ?_); rw [HR.out]; rintro e w2 ⟨te, er, rfl, bb, he, hte⟩; subst he; rw [← HS.out] at hte; have hte' := hte; clear hte; subst hte'; have hx := hx.below bb; have hK := hK.below bb; have qa := qa.below bb; have qa_0 := qa.1; have qa_1 := qa.2.1; have qa_2 := qa.2.2.1; have HT := Lib.hid (HT.out.below bb); have B0 := B0.trans (bb.mono B0.size); clear bb))
        go_loopw [6, 32] (fun y z wr => ∃ (i : Nat) (tt : ByteArray), i ≤ m ∧ z = .int .i64 (i : Int) ∧ y = .string tt ∧ Hid (LsA K u i tt) ∧ tt.size ≤ 20001 ∧ RdS wr K (.slice A m c) ∧ Hid (Tab wr) ∧ Below w.heap.size w wr) (fun _ z _ => m - (intOf z).toNat)
        case atStart => exact ⟨0, ⟨#[40]⟩, Nat.zero_le _, rfl, rfl, LsA.start K u, by decide, hK, HT, B0⟩
        case round =>
          clear hK HT B0 hx qa qa_0 qa_1 qa_2
          obtain ⟨i, tt, hi, rfl, rfl, hA, htt, hKr, HTr, Br⟩ := hrel
          by_cases hlt : i < m
          · obtain ⟨n, hn⟩ : ∃ n, K[i]? = some n := ⟨_, List.getElem?_eq_getElem (by have := Hm.out; omega)⟩
            obtain ⟨x, hex, hN⟩ := hA.out.next HU.out hul hn
            obtain ⟨g, off, u0, u1, u2, rfl, c0, c1, c2, hM⟩ := hKr.at hn
            have hK := hKr
            have HT := HTr
            have B0 := Br
            obtain ⟨ln, tn, kn⟩ := n
            obtain ⟨An, mn, cn, hag, -, -, -, -, -⟩ := hM.named
            simp only [Value.agg.injEq, Array.mk.injEq, List.cons.injEq, and_true] at hag
            obtain ⟨rfl, rfl, rfl⟩ := hag
            have Hzn : Hid (size (.mk ln tn kn) ≤ 21000) := Nat.le_trans (sizeL_mem K i _ hn) Hk.out
            have hxs : (ofL x).size ≤ 20000 := (encd_ok hex).2
            have hts := hN.size
            have HN := Lib.hid hN
            have HE := Lib.hid hex
            obtain ⟨X, hX⟩ : ∃ X, X = ofL x := ⟨_, rfl⟩
            rw [← hX] at hxs hts HN
            have HX := Lib.hid hX
            have hM := hM.below (up_1 _ (.cells #[.bool ln, .string (ofL tn), .slice An mn cn] 25))
            have qb := Bn.new wr (.bool ln) (.string (ofL tn)) (.slice An mn cn) 25
            have qb_0 := qb.1
            have qb_1 := qb.2.1
            have qb_2 := qb.2.2.1
            have hK := hK.below (up_1 wr (.cells #[.bool ln, .string (ofL tn), .slice An mn cn] 25))
            have HT := Lib.hid (HT.out.below (up_1 wr (.cells #[.bool ln, .string (ofL tn), .slice An mn cn] 25)))
            have B0 := B0.alloc B0.size (.cells #[.bool ln, .string (ofL tn), .slice An mn cn] 25)
            clear hn hex hN hX
            go_wp2_with (first | (go_at_call 15; (with_reducible refine (encode_c hM Hzn.out HT.out).mono ?_); rw [HE.out]; rintro e w4 ⟨te, er, rfl, bb, he, hte⟩; subst he; rw [← HX.out] at hte; have hte' := hte; clear hte; subst hte'; have hK := hK.below bb; have HT := Lib.hid (HT.out.below bb); have B0 := B0.trans (bb.mono B0.size); clear bb))
            go_roundw
            case rel => exact ⟨i + 1, _, by omega, by go_num, rfl, HN.out, by rw [ByteArray.size_append] at hts ⊢; omega, hK, HT, B0⟩
            case measure => simp [intOf]; omega
          · have HT := HTr
            have B0 := Br
            have hfin := hA.out.done HU.out (by have := Hm.out; omega)
            rw [← Hs0.out, ← HS.out] at hfin
            go_wp2_with (first | (go_at_call 10; (with_reducible refine (example_walk _ HT.out).mono ?_); rintro e w9 ⟨rfl, bb⟩; have HT := Lib.hid (HT.out.below bb); have B0 := B0.trans (bb.mono B0.size); clear bb))
            all_goals go_ret
            all_goals exact ⟨rfl, B0⟩
end Go.Proofs.YtmklladpalcjpaaDoor
