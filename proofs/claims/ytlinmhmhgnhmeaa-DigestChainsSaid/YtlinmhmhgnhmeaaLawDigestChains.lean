/-
  The walk of garmentlaw07.DigestChains.
-/
import Derived.Test.YtlinmhmhgnhmeaaDigC
namespace Go.Proofs.Ytlinmhmhgnhmeaa
open Go.RowKit Dig
set_option linter.unusedVariables false
set_option maxRecDepth 20000 in
set_option maxHeartbeats 2000000 in
theorem lawdigestchains_walk (w : World) (L : List (List UInt8)) (v : Value) (h : RdT w L v) (s : ByteArray) (hs : s.size ≤ 9223372036854775807) (ht : Dt w) : Calls Try.prog 8 #[v, .string s] w (BoolAnd true w) := by
  have B0 := Below.refl w.heap.size w
  have HT := Lib.hid ht
  clear ht
  obtain ⟨A, m, c, rfl, Hm, hmc, hc⟩ := h.named
  by_cases hL : Lt L
  · by_cases h200 : 200 < s.size
    · have HL := Lib.hid hL
      clear hL
      go_enter Try.func8, Try.ntmps8
      go_wp2_with (first | (go_at_call 18; (with_reducible refine (light_yes L _ _ h HL.out).mono ?_); rintro e w1 ⟨rfl, rfl⟩) | (go_at_call 11; (with_reducible refine (alive_walk _ HT.out).mono ?_); rintro e w9 ⟨rfl, bb⟩; have HT := Lib.hid (HT.out.below bb); have B0 := B0.trans (bb.mono B0.size); clear bb))
      all_goals go_ret
      all_goals exact ⟨rfl, B0⟩
    · have hm : m ≤ 30 := by have := Hm.out; have := hL.1; omega
      have HL := Lib.hid hL
      have HL2 : Hid (∀ s ∈ L, s.length ≤ 100000) := fun s hs => Nat.le_trans (hL.2 s hs) (by omega)
      have HL3 : Hid (∀ x ∈ L ++ [s.data.toList], x.length ≤ 100000) := fun x hx => by
        rcases List.mem_append.1 hx with h1 | h1
        · exact HL2.out x h1
        · simp only [List.mem_cons, List.not_mem_nil, or_false] at h1
          subst h1
          rw [data_len]
          omega
      obtain ⟨K, hK⟩ : ∃ K, lk 0 L = K := ⟨_, rfl⟩
      obtain ⟨e, he⟩ : ∃ e, ch (lastOf 0 L) s.data.toList = e := ⟨_, rfl⟩
      have HE := Lib.hid he
      have hK2 : lk 0 (L ++ [s.data.toList]) = K ++ [e] := by rw [lk_append, hK, lk, lk, he]
      have hKm : K.length = m := by rw [← hK, lk_length]; exact Hm.out
      have HK := Lib.hid hK
      have HKK := Lib.hid hK2
      have HKm := Lib.hid hKm
      clear hL hK hK2 hKm he
      go_enter Try.func8, Try.ntmps8
      go_upto_region 4 with (first | (go_at_call 18; (with_reducible refine (light_yes L _ _ h HL.out).mono ?_); rintro e w1 ⟨rfl, rfl⟩) | (go_at_call 19; (with_reducible refine (links_c L _ _ HT.out h (by have := Hm.out; omega) HL2.out).mono ?_); rw [HK.out]; rintro e w2 ⟨A1, m1, c1, rfl, hU, bb⟩; have e1 : m = m1 := HKm.out.symm.trans hU.len; subst e1; have HT := Lib.hid (HT.out.below bb); have B0 := B0.trans (bb.mono B0.size); have h := h.below bb; clear bb))
      obtain ⟨A3, m3, c3, w3, A4, m4, c4, w4, r3, r4, h4, bb⟩ := two_appends w2 L _ s h (by have := Hm.out; omega) (by omega)
      have HT := Lib.hid (HT.out.below bb)
      have B0 := B0.trans (bb.mono B0.size)
      have h := h.below bb
      have hU := hU.below bb
      clear bb
      go_wp2_with (first | (at_builtin; refine Lib.wpList_append_run _ rfl (.tmp 21) (.tmp 22) 30 30 rfl _ _ rfl rfl _ _ r3 ?_) | (at_builtin; refine Lib.wpList_append_run _ rfl (.tmp 23) (.tmp 25) 30 30 rfl _ _ rfl rfl _ _ r4 ?_) | (go_at_call 19; (with_reducible refine (links_c (L ++ [s.data.toList]) _ _ HT.out h4 (by rw [List.length_append]; have := Hm.out; simp; omega) HL3.out).mono ?_); rw [HKK.out]; rintro e w5 ⟨A2, m2, c2, rfl, hV, bb⟩; have e2 : m + 1 = m2 := Eq.trans (by rw [List.length_append, HKm.out]; rfl) hV.len; subst e2; have HT := Lib.hid (HT.out.below bb); have B0 := B0.trans (bb.mono B0.size); have h := h.below bb; have hU := hU.below bb; clear bb))
      clear r3 r4 h4
      go_loopw [7, 8, 9] (fun x y z wr => ∃ (i d : Nat) (T : ByteArray), i ≤ m ∧ z = .int .i64 (i : Int) ∧ x = .int .u64 (d : Int) ∧ y = .string T ∧ Hid (d = lastOf 0 (L.take i)) ∧ Hid (T.data.toList = joined (L.take i)) ∧ T.size ≤ 201 * i ∧ RdU wr K (.slice A1 m c1) ∧ RdU wr (K ++ [e]) (.slice A2 (m + 1) c2) ∧ RdT wr L (.slice A m c) ∧ Hid (Dt wr) ∧ Below w.heap.size w wr) (fun _ _ z _ => m - (intOf z).toNat)
      case atStart => exact ⟨0, 0, ⟨#[]⟩, Nat.zero_le _, rfl, rfl, rfl, Lib.hid rfl, Lib.hid rfl, Nat.zero_le _, hU, hV, h, HT, B0⟩
      case round =>
        clear hU hV HT B0 h
        obtain ⟨i, d, T, hi, rfl, rfl, rfl, hD, hJ, hTs, hU, hV, h, HT, B0⟩ := hrel
        have ld : d < 18446744073709551616 := by rw [hD.out]; exact lt64 (lastOf_lt _ 0 P_pos)
        by_cases hlt : i < m
        · obtain ⟨si, hsi⟩ : ∃ si, L[i]? = some si := ⟨_, List.getElem?_eq_getElem (by have := Hm.out; omega)⟩
          obtain ⟨D, hDD⟩ : ∃ D, ch d si = D := ⟨_, rfl⟩
          have hN : Hid (D = lastOf 0 (L.take (i + 1))) := by
            show _ = _
            rw [lastOf_next L 0 i si hsi, ← hD.out, hDD]
          have kz : K[i]? = some D := by
            rw [← HK.out, lk_get L 0 i (by have := Hm.out; omega), hN.out]
          have kz2 : (K ++ [e])[i]? = some D := by
            rw [List.getElem?_append_left (by have := HKm.out; omega)]
            exact kz
          have hJ2 : Hid ((T ++ ⟨#[10]⟩ ++ ofL si : ByteArray).data.toList = joined (L.take (i + 1))) := by
            show _ = _
            rw [data_app, data_app, hJ.out, List.take_add_one, hsi]
            exact (joined_snoc _ _).symm
          have HO : Hid (dg (T ++ ⟨#[10]⟩ ++ ofL si : ByteArray).data.toList = D) := by
            show _ = _
            rw [hJ2.out, ← lastOf_dg, hN.out]
          have hl200 : si.length ≤ 200 := HL.out.2 si (List.mem_of_getElem? hsi)
          have hT2 : (T ++ ⟨#[10]⟩ ++ ofL si : ByteArray).size ≤ 201 * (i + 1) := by
            rw [ByteArray.size_append, ByteArray.size_append, ofL_size]
            have : (⟨#[10]⟩ : ByteArray).size = 1 := rfl
            omega
          have hl2 : (ofL si).size ≤ 900000 := by rw [ofL_size]; omega
          have HD := Lib.hid hDD
          obtain ⟨g0, f0, rfl, hcell, _⟩ := h.at hsi
          obtain ⟨g1, f1, rfl, q1⟩ := hU.at kz
          obtain ⟨g2, f2, rfl, q2⟩ := hV.at kz2
          have HT2 := Lib.hid hT2
          have n1 : (9223372036854775807 < T.size + 1) = False := eq_false (by omega)
          have n2 : (9223372036854775807 < T.size + 1 + (ofL si).size) = False := eq_false (by omega)
          clear hsi hDD kz kz2 hJ hTs hT2 hD
          go_wp2_with (first | (go_at_call 16; (with_reducible refine (chain_c d (ofL si) _ HT.out ld hl2).mono ?_); rw [ofL_data, HD.out]; rintro e w6 ⟨rfl, bb⟩; have HT := Lib.hid (HT.out.below bb); have B0 := B0.trans (bb.mono B0.size); have h := h.below bb; have hU := hU.below bb; have hV := hV.below bb; have hcell := cell_below hcell bb; have q1 := cell_below q1 bb; have q2 := cell_below q2 bb; clear bb) | (go_at_call 12; (with_reducible refine (of_c (T ++ ⟨#[10]⟩ ++ ofL si) _ HT.out (by have := HT2.out; omega)).mono ?_); rw [HO.out]; rintro e w7 ⟨rfl, bb⟩; have HT := Lib.hid (HT.out.below bb); have B0 := B0.trans (bb.mono B0.size); have h := h.below bb; have hU := hU.below bb; have hV := hV.below bb; have hcell := cell_below hcell bb; have q1 := cell_below q1 bb; have q2 := cell_below q2 bb; clear bb))
          go_roundw
          case rel => exact ⟨i + 1, D, _, by omega, by go_num, rfl, rfl, hN, hJ2, HT2.out, hU, hV, h, HT, B0⟩
          case measure => simp [intOf]; omega
        · have hE : Hid (L.take i = L) := List.take_of_length_le (by have := Hm.out; omega)
          have HC : Hid (ch d s.data.toList = e) := by
            show _ = _
            rw [hD.out, hE.out]
            exact HE.out
          have ke : (K ++ [e])[m]? = some e := by
            rw [List.getElem?_append_right (by have := HKm.out; omega), HKm.out, Nat.sub_self]
            rfl
          have hem1 : (0 : Int) ≤ (m : Int) := by omega
          have hem2 : (m : Int) < (m : Int) + 1 := by omega
          have hem : m < m + 1 := Nat.lt_succ_self m
          clear hD hJ hTs hE HE
          go_wp2_with fail
          have dr : ∀ W : World, Below W.heap.size W W.drew := fun W => (Below.refl _ _).drew
          have HT := Lib.hid (HT.out.below (dr _))
          have B0 := B0.drew
          have hV := hV.below (dr _)
          obtain ⟨g2, f2, rfl, q2⟩ := hV.at ke
          clear dr hV ke
          go_region_held3 (fun W => W.cell? ⟨g2, f2 + m, none⟩ = some (.int .u64 (e : Int))) (exact q2)
            (first | (go_at_call 16; (with_reducible refine (chain_c d s _ HT.out ld (by omega)).mono ?_); rw [HC.out]; rintro e w8 ⟨rfl, bb⟩; have HT := Lib.hid (HT.out.below bb); have B0 := B0.trans (bb.mono B0.size); have q2 := cell_below q2 bb; clear bb) | (go_at_call 11; (with_reducible refine (alive_walk _ HT.out).mono ?_); rintro e w9 ⟨rfl, bb⟩; have HT := Lib.hid (HT.out.below bb); have B0 := B0.trans (bb.mono B0.size); have q2 := cell_below q2 bb; clear bb))
          all_goals go_wp2
          all_goals go_ret
          all_goals exact ⟨rfl, B0⟩
  · have HL := Lib.hid hL
    clear hL
    go_enter Try.func8, Try.ntmps8
    go_wp2_with (first | (go_at_call 18; (with_reducible refine (light_no L _ _ h HL.out).mono ?_); rintro e w1 ⟨rfl, rfl⟩) | (go_at_call 11; (with_reducible refine (alive_walk _ HT.out).mono ?_); rintro e w9 ⟨rfl, bb⟩; have HT := Lib.hid (HT.out.below bb); have B0 := B0.trans (bb.mono B0.size); clear bb))
    all_goals go_ret
    all_goals exact ⟨rfl, B0⟩
end Go.Proofs.Ytlinmhmhgnhmeaa
