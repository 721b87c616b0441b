/-
  The walk of garmentlaw07.DigestNotices.
-/
import Derived.Test.YtlinmhmhgnhmeaaDigQ
namespace Go.Proofs.Ytlinmhmhgnhmeaa
open Go.RowKit Dig
set_option linter.unusedVariables false
set_option maxRecDepth 20000 in
set_option maxHeartbeats 2000000 in
theorem lawdigestnotices_walk (w : World) (s : ByteArray) (hs : s.size ≤ 9223372036854775807) (k : Nat) (hk : k < 65536) (d : UInt8) (ht : Dt w) : Calls Try.prog 6 #[.string s, .int .u16 (k : Int), .int .u8 (d.toNat : Int)] w (BoolAnd true w) := by
  have B0 := Below.refl w.heap.size w
  have HT := Lib.hid ht
  clear ht
  by_cases h0 : s.size = 0
  · go_enter Try.func6, Try.ntmps6
    go_wp2_with (first | (go_at_call 11; (with_reducible refine (alive_walk _ HT.out).mono ?_); rintro e w9 ⟨rfl, bb⟩; have HT := Lib.hid (HT.out.below bb); have B0 := B0.trans (bb.mono B0.size); clear bb))
    all_goals go_ret
    all_goals exact ⟨rfl, B0⟩
  · by_cases hbig : 2000 < s.size
    · go_enter Try.func6, Try.ntmps6
      go_wp2_with (first | (go_at_call 11; (with_reducible refine (alive_walk _ HT.out).mono ?_); rintro e w9 ⟨rfl, bb⟩; have HT := Lib.hid (HT.out.below bb); have B0 := B0.trans (bb.mono B0.size); clear bb))
      all_goals go_ret
      all_goals exact ⟨rfl, B0⟩
    · have hz0 : ((s.size : Int) == 0) = false := beq_eq_false_iff_ne.2 (by omega)
      have hz2 : decide (2000 < (s.size : Int)) = false := by simp; omega
      obtain ⟨i, hi⟩ : ∃ i, k % s.size = i := ⟨_, rfl⟩
      have hlt : i < s.size := by rw [← hi]; exact Nat.mod_lt _ (by omega)
      have m1 : ((k : Int) % (s.size : Int)) = (i : Int) := by rw [← hi]; omega
      have t1 : (k : Int).tmod (s.size : Int) = (i : Int) := by rw [Int.tmod_eq_emod_of_nonneg (by omega)]; exact m1
      have hcv : (convert 40 9 (.slice (some ⟨w.heap.size, 0, none⟩) 1 1)).run Try.prog ((w.alloc (.cells #[.int .u8 (d.toNat : Int)] 5)).drew) = .ok (.string ⟨#[d]⟩) ((w.alloc (.cells #[.int .u8 (d.toNat : Int)] 5)).drew) := byte_conv w.drew d (d.toNat : Int) rfl w.drew.heap.size rfl
      have hle1 : i ≤ s.size := by omega
      have hle2 : i + 1 ≤ s.size := by omega
      have B1 := (B0.alloc B0.size (.cells #[.int .u8 (d.toNat : Int)] 5)).drew
      have HT1 := Lib.hid (HT.out.below B1)
      clear hi
      go_enter Try.func6, Try.ntmps6
      go_wp2_with fail
      go_region
      rw [repl_text s i d hlt]
      obtain ⟨w1, hw1⟩ : ∃ w1, (w.alloc (.cells #[.int .u8 (d.toNat : Int)] 5)).drew = w1 := ⟨_, rfl⟩
      rw [hw1] at B1 HT1 ⊢
      obtain ⟨c, hc⟩ : ∃ c, s.data.toList[i]? = some c := ⟨_, List.getElem?_eq_getElem (by rw [data_len]; exact hlt)⟩
      have e0 := eq_text (d := d) hc
      have e1 := eq_as (a := dg s.data.toList) (b := dg (repl s.data.toList i d)) (c := c) (d := d) (fun e => by rw [← e, repl_self _ _ _ hc]) (fun e => differ_dg hc e)
      have e2 := eq_as (a := ch (ch 0 [120]) s.data.toList) (b := ch (ch 0 [120]) (repl s.data.toList i d)) (c := c) (d := d) (fun e => by rw [← e, repl_self _ _ _ hc]) (fun e => differ_ch _ hc e)
      have e3 := eq_as (a := ch (ch (ch 0 [120]) s.data.toList) [121]) (b := ch (ch (ch 0 [120]) (repl s.data.toList i d)) [121]) (c := c) (d := d) (fun e => by rw [← e, repl_self _ _ _ hc]) (fun e => differ_ch2 _ _ hc e)
      have K1 := Lib.hid (lk3 [120] s.data.toList [121])
      have K2 := Lib.hid (lk3 [120] (repl s.data.toList i d) [121])
      have hl2 : (repl s.data.toList i d).length = s.size := by rw [repl_len _ _ _ (by rw [data_len]; exact hlt), data_len]
      have hT : ofL (repl s.data.toList i d) = ofL (repl s.data.toList i d) := rfl
      obtain ⟨R, hR⟩ : ∃ R, repl s.data.toList i d = R := ⟨_, rfl⟩
      rw [hR] at e0 e1 e2 e3 K2 hl2 ⊢
      have hRs : (ofL R).size = s.size := by rw [ofL_size, hl2]
      obtain ⟨sm, hsm⟩ : ∃ sm, decide (c = d) = sm := ⟨_, rfl⟩
      rw [hsm] at e0 e1 e2 e3
      obtain ⟨o1, ho1⟩ : ∃ o1, dg s.data.toList = o1 := ⟨_, rfl⟩
      obtain ⟨o2, ho2⟩ : ∃ o2, dg R = o2 := ⟨_, rfl⟩
      obtain ⟨x0, hx0⟩ : ∃ x0, ch 0 [120] = x0 := ⟨_, rfl⟩
      rw [hx0] at e2 e3 K1 K2
      obtain ⟨x1, hx1⟩ : ∃ x1, ch x0 s.data.toList = x1 := ⟨_, rfl⟩
      obtain ⟨y1, hy1⟩ : ∃ y1, ch x0 R = y1 := ⟨_, rfl⟩
      rw [hx1] at e2 e3 K1
      rw [hy1] at e2 e3 K2
      obtain ⟨x2, hx2⟩ : ∃ x2, ch x1 [121] = x2 := ⟨_, rfl⟩
      obtain ⟨y2, hy2⟩ : ∃ y2, ch y1 [121] = y2 := ⟨_, rfl⟩
      rw [hx2] at e3 K1
      rw [hy2] at e3 K2
      rw [ho1, ho2] at e1
      have HO1 := Lib.hid ho1
      have HO2 := Lib.hid ho2
      have B0 := B1
      have HT := HT1
      clear hw1 hcv B1 HT1 hR hsm ho1 ho2 hx0 hx1 hy1 hx2 hy2 hT hc m1 t1 hle1 hle2
      go_wp2_with fail
      have U := up_1 w1 (.cells #[.string ⟨#[120]⟩, .string s, .string ⟨#[121]⟩] 9)
      have HT := Lib.hid (HT.out.below U)
      have B0 := B0.trans (U.mono B0.size)
      refine (links_c [[120], s.data.toList, [121]] _ _ HT.out (lit_T w1 [[120], s.data.toList, [121]] #[.string ⟨#[120]⟩, .string s, .string ⟨#[121]⟩] _ _ _ rfl rfl rfl (by simp) (three_le (by rw [data_len]; omega) (by omega))) (by simp) (three_le (by rw [data_len]; omega) (by omega))).mono ?_
      rw [K1.out]
      rintro e w2 ⟨A1, m1, c1, rfl, hU, bb⟩
      have HT := Lib.hid (HT.out.below bb)
      have B0 := B0.trans (bb.mono B0.size)
      obtain ⟨g1, f1, rfl, rfl, hc1, _⟩ := hU.three
      clear U bb
      go_wp2_with fail
      have U := up_1 w2 (.cells #[.string ⟨#[120]⟩, .string (ofL R), .string ⟨#[121]⟩] 9)
      have HT := Lib.hid (HT.out.below U)
      have B0 := B0.trans (U.mono B0.size)
      have hU := hU.below U
      refine (links_c [[120], R, [121]] _ _ HT.out (lit_T w2 [[120], R, [121]] #[.string ⟨#[120]⟩, .string (ofL R), .string ⟨#[121]⟩] _ _ _ rfl rfl rfl (by simp) (three_le (by omega) (by omega))) (by simp) (three_le (by omega) (by omega))).mono ?_
      rw [K2.out]
      rintro e w3 ⟨A2, m2, c2, rfl, hV, bb⟩
      have HT := Lib.hid (HT.out.below bb)
      have B0 := B0.trans (bb.mono B0.size)
      have hU := hU.below bb
      obtain ⟨g2, f2, rfl, rfl, hc2, _⟩ := hV.three
      clear U bb
      go_wp2_with fail
      have dr : ∀ W : World, Below W.heap.size W W.drew := fun W => (Below.refl _ _).drew
      have HT := Lib.hid (HT.out.below (dr _))
      have B0 := B0.drew
      have hU := hU.below (dr _)
      have hV := hV.below (dr _)
      obtain ⟨_, _, ea, _, _, u0, u1, u2⟩ := hU.three
      cases ea
      obtain ⟨_, _, eb, _, _, v0, v1, v2⟩ := hV.three
      cases eb
      clear dr hU hV
      go_region_held3 (fun W => W.cell? ⟨g1, f1, none⟩ = some (.int .u64 (x0 : Int)) ∧ W.cell? ⟨g1, f1 + 1, none⟩ = some (.int .u64 (x1 : Int)) ∧ W.cell? ⟨g1, f1 + 2, none⟩ = some (.int .u64 (x2 : Int)) ∧ W.cell? ⟨g2, f2, none⟩ = some (.int .u64 (x0 : Int)) ∧ W.cell? ⟨g2, f2 + 1, none⟩ = some (.int .u64 (y1 : Int)) ∧ W.cell? ⟨g2, f2 + 2, none⟩ = some (.int .u64 (y2 : Int))) (exact ⟨u0, u1, u2, v0, v1, v2⟩)
        (first | (go_at_call 12; (with_reducible refine (of_c s _ HT.out (by omega)).mono ?_); rw [HO1.out]; rintro e w4 ⟨rfl, bb⟩; have HT := Lib.hid (HT.out.below bb); have B0 := B0.trans (bb.mono B0.size); have u0 := cell_below u0 bb; have u1 := cell_below u1 bb; have u2 := cell_below u2 bb; have v0 := cell_below v0 bb; have v1 := cell_below v1 bb; have v2 := cell_below v2 bb; clear bb) | (go_at_call 12; (with_reducible refine (of_c (ofL R) _ HT.out (by omega)).mono ?_); rw [ofL_data, HO2.out]; rintro e w5 ⟨rfl, bb⟩; have HT := Lib.hid (HT.out.below bb); have B0 := B0.trans (bb.mono B0.size); have u0 := cell_below u0 bb; have u1 := cell_below u1 bb; have u2 := cell_below u2 bb; have v0 := cell_below v0 bb; have v1 := cell_below v1 bb; have v2 := cell_below v2 bb; clear bb) | (go_at_call 11; (with_reducible refine (alive_walk _ HT.out).mono ?_); rintro e w9 ⟨rfl, bb⟩; have HT := Lib.hid (HT.out.below bb); have B0 := B0.trans (bb.mono B0.size); have u0 := cell_below u0 bb; have u1 := cell_below u1 bb; have u2 := cell_below u2 bb; have v0 := cell_below v0 bb; have v1 := cell_below v1 bb; have v2 := cell_below v2 bb; clear bb))
      all_goals go_wp2
      all_goals go_ret
      all_goals exact ⟨rfl, B0⟩
end Go.Proofs.Ytlinmhmhgnhmeaa
