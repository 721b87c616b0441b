/-
  The walk of garmentlaw07.DigestLists.
-/
import Derived.Test.YtlinmhmhgnhmeaaDigG
namespace Go.Proofs.Ytlinmhmhgnhmeaa
open Go.RowKit Dig
set_option linter.unusedVariables false
set_option maxRecDepth 20000 in
set_option maxHeartbeats 2000000 in
theorem lawdigestlists_walk (w : World) (L : List (List UInt8)) (v : Value) (h : RdT w L v) (ht : Dt w) : Calls Try.prog 4 #[v] w (BoolAnd true w) := by
  have B0 := Below.refl w.heap.size w
  have HT := Lib.hid ht
  clear ht
  obtain ⟨A, m, c, rfl, Hm, hmc, hc⟩ := h.named
  by_cases hL : Lt L
  · have hm : m ≤ 30 := by have := Hm.out; have := hL.1; omega
    have HL := Lib.hid hL
    have HL2 : Hid (∀ s ∈ L, s.length ≤ 100000) := fun s hs => Nat.le_trans (hL.2 s hs) (by omega)
    obtain ⟨K, hK⟩ : ∃ K, lk 0 L = K := ⟨_, rfl⟩
    have hKm : K.length = m := by rw [← hK, lk_length]; exact Hm.out
    have HK := Lib.hid hK
    have HKm := Lib.hid hKm
    clear hL hK hKm
    go_enter Try.func4, Try.ntmps4
    go_wp2_with (first | (go_at_call 18; (with_reducible refine (light_yes L _ _ h HL.out).mono ?_); rintro e w1 ⟨rfl, rfl⟩) | (go_at_call 19; (with_reducible refine (links_c L _ _ HT.out h (by have := Hm.out; omega) HL2.out).mono ?_); rw [HK.out]; rintro e w2 ⟨A1, m1, c1, rfl, hU, bb⟩; have e1 : m = m1 := HKm.out.symm.trans hU.len; subst e1; have h := h.below bb; have HT := Lib.hid (HT.out.below bb); have B0 := B0.trans (bb.mono B0.size); clear bb) | (go_at_call 20; (with_reducible refine (rlinks_walk L _ _ h (by have := Hm.out; omega) HL2.out).mono ?_); rw [HK.out]; rintro e w3 ⟨A2, m2, c2, rfl, hV, bb⟩; have e2 : m = m2 := HKm.out.symm.trans hV.len; subst e2; have hU := hU.below bb; have HT := Lib.hid (HT.out.below bb); have B0 := B0.trans (bb.mono B0.size); clear bb))
    go_loopw [5] (fun y wr => ∃ i : Nat, i ≤ m ∧ y = .int .i64 (i : Int) ∧ RdU wr K (.slice A1 m c1) ∧ RdU wr K (.slice A2 m c2) ∧ Hid (Dt wr) ∧ Below w.heap.size w wr) (fun y _ => m - (intOf y).toNat)
    case atStart => exact ⟨0, Nat.zero_le _, rfl, hU, hV, HT, B0⟩
    case round =>
      clear hU hV HT B0 h
      obtain ⟨i, hi, rfl, hU, hV, HT, B0⟩ := hrel
      by_cases hlt : i < m
      · obtain ⟨z, hz⟩ : ∃ z, K[i]? = some z := ⟨_, List.getElem?_eq_getElem (by have := HKm.out; omega)⟩
        obtain ⟨g1, o1, rfl, q1⟩ := hU.at hz
        obtain ⟨g2, o2, rfl, q2⟩ := hV.at hz
        have i1 : (0 : Int) ≤ (i : Int) ∧ (i : Int) < (m : Int) := ⟨by omega, by omega⟩
        have hU2 := fun n => hU.below (below_drewN n wr)
        have hV2 := fun n => hV.below (below_drewN n wr)
        have HT2 := fun n => Lib.hid (HT.out.below (below_drewN n wr))
        have B02 := fun n => B0.trans ((below_drewN n wr).mono B0.size)
        clear hz hU hV
        go_wp2_with fail
        go_quiet (fail)
        go_wp2
        go_roundw
        case rel => exact ⟨i + 1, by omega, by go_num, hU2 _, hV2 _, HT2 _, B02 _⟩
        case measure => simp [intOf]; omega
      · go_wp2_with (first | (go_at_call 11; (with_reducible refine (alive_walk _ HT.out).mono ?_); rintro e w9 ⟨rfl, bb⟩; have HT := Lib.hid (HT.out.below bb); have B0 := B0.trans (bb.mono B0.size); clear bb))
        all_goals go_ret
        all_goals exact ⟨rfl, B0⟩
  · have HL := Lib.hid hL
    clear hL
    go_enter Try.func4, Try.ntmps4
    go_wp2_with (first | (go_at_call 18; (with_reducible refine (light_no L _ _ h HL.out).mono ?_); rintro e w1 ⟨rfl, rfl⟩) | (go_at_call 11; (with_reducible refine (alive_walk _ HT.out).mono ?_); rintro e w9 ⟨rfl, bb⟩; have HT := Lib.hid (HT.out.below bb); have B0 := B0.trans (bb.mono B0.size); clear bb))
    all_goals go_ret
    all_goals exact ⟨rfl, B0⟩
end Go.Proofs.Ytlinmhmhgnhmeaa
