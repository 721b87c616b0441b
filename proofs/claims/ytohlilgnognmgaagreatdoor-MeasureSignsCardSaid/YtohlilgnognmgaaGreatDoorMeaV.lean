/-
  The walks of measure's parseFraction, parseDecimal, parseValue, unitSize and cutUnit at any string.
-/
import Derived.Test.YtohlilgnognmgaaGreatDoorMeaD
namespace Go.Proofs.YtohlilgnognmgaaGreatDoor
open Go.RowKit Mea
attribute [local go_sem ↓] Go.wp_at_zero Go.wp_at_succ
set_option linter.unusedVariables false

def ofL (l : List UInt8) : ByteArray := ⟨l.toArray⟩
theorem ofL_data (l : List UInt8) : (ofL l).data.toList = l := rfl
theorem ofL_size (l : List UInt8) : (ofL l).size = l.length := by rw [← list_len]; rfl
theorem ofL_eq {s : ByteArray} {l : List UInt8} (h : s.data.toList = l) : s = ofL l := bytes_ext h
theorem cut2 (c : UInt8) (s : ByteArray) (f : Bool) (hs : s.size ≤ 100000) (hf : (cutAt c s.data.toList).2.2 = f) (w : World) : Calls Tryz.prog 68 #[.string s, .string ⟨#[c]⟩] w (Cut2 (ofL (cutAt c s.data.toList).1) (ofL (cutAt c s.data.toList).2.1) f w) := by
  refine (cutb c s f w hs hf).mono ?_
  rintro e w' ⟨p, r, rfl, ⟨h1, h2, _, _⟩, bb⟩
  rw [← h1, ← h2]
  exact ⟨rfl, bb⟩
theorem cut_len (c : UInt8) (l : List UInt8) : (cutAt c l).1.length ≤ l.length ∧ (cutAt c l).2.1.length ≤ l.length := by
  induction l with
  | nil => simp [cutAt]
  | cons x t ih =>
    simp only [cutAt]
    split
    · simp
    · simp only [List.length_cons]; omega
theorem pwh_at (l : List UInt8) (h : l.length ≤ 1000) (w : World) : Calls Tryz.prog 71 #[.string (ofL l)] w (SmallEnd ((pWh l).1 : Nat) (pWh l).2 w) := pwh_walk (ofL l) w (by rw [ofL_size]; exact h)
theorem V3.v {x y : Int} {f : Bool} {v : Nat × Nat × Bool} {w w' : World} {e : Ending} (h : V3 x y f w e w') (hf : f = v.2.2) (hx : f = true → x = v.1 ∧ y = v.2.1) : VEnd v w e w' := by
  obtain ⟨rfl, bb⟩ := h
  subst hf
  exact ⟨x, y, rfl, hx, bb⟩
theorem pfrac_walk (a b : List UInt8) (w : World) (ha : a.length ≤ 900) (hb : b.length ≤ 900) : Calls Tryz.prog 69 #[.string (ofL a), .string (ofL b)] w (VEnd (pFrac a b) w) := by
  have hl := cut_len 32 a
  by_cases hf : (cutAt 32 a).2.2 = true
  · refine (pfrac_mixed (ofL a) (ofL b) (ofL (cutAt 32 a).1) (ofL (cutAt 32 a).2.1) w (pWh (cutAt 32 a).1).1 (pWh (cutAt 32 a).2.1).1 (pWh b).1 _ _ _ (pWh_lt _) (pWh_lt _) (pWh_lt _) (cut2 32 (ofL a) true (by rw [ofL_size]; omega) hf) (pwh_at _ (by omega)) (pwh_at _ (by omega)) (pwh_at _ (by omega))).mono ?_
    intro e w' h
    refine h.v ?_ ?_
    · simp only [pFrac, hf, if_true]
    · intro _; simp [pFrac, hf]
  · have hf : (cutAt 32 a).2.2 = false := by simpa using hf
    refine (pfrac_plain (ofL a) (ofL b) (ofL (cutAt 32 a).1) (ofL (cutAt 32 a).2.1) w (pWh a).1 (pWh b).1 _ _ (pWh_lt _) (pWh_lt _) (cut2 32 (ofL a) false (by rw [ofL_size]; omega) hf) (pwh_at _ (by omega)) (pwh_at _ (by omega))).mono ?_
    intro e w' h
    refine h.v ?_ ?_
    · simp only [pFrac, hf, if_false, Bool.false_eq_true]
    · intro _; simp [pFrac, hf]
theorem next_any {P : Program} (w : World) (s : ByteArray) (pos : Nat) (h : pos < s.size) : ∃ r k : Nat, 1 ≤ k ∧ ∀ ty, (Instr.next (.pointer (some ⟨w.heap.size, 0, none⟩)) true ty).run P (w.iter s pos) = .ok (.tuple #[.bool true, .int .i64 pos, .int .i32 r]) (w.iter s (pos + k)) := by
  refine ⟨_, _, ?_, fun ty => run_next_any w s pos ty h⟩
  by_cases ha : (s[pos]'h).toNat < 128
  · rw [decode_ascii s pos h ha]; exact Nat.le_refl _
  · exact (decode_high s pos h (by omega)).2
theorem pdec_long (a b : ByteArray) (w : World) (h : 4 < b.size) : Calls Tryz.prog 70 #[.string a, .string b] w (VEnd (0, 0, false) w) := by
  have h' : (4 : Int) < (b.size : Int) := by omega
  go_enter Tryz.func70, Tryz.ntmps70
  go_wp2
  go_ret3
  exact ⟨_, _, rfl, fun h => (by cases h), Below.refl _ _⟩
theorem ten_pow (k : Nat) (h : k ≤ 4) : 10 ^ k ≤ 10000 ∧ (k < 4 → 10 ^ k ≤ 1000) := ⟨Nat.pow_le_pow_right (n := 10) (by omega) h, fun h1 => Nat.pow_le_pow_right (n := 10) (by omega) (show k ≤ 3 by omega)⟩
set_option maxRecDepth 20000 in
set_option maxHeartbeats 4000000 in
theorem pdec_short (a b : ByteArray) (w : World) (hb : b.size ≤ 4) (x y D : Nat) (hx : x < 10000000) (hy : y < 10000) (hD : D = 10 ^ b.size) (b1 b2 : Bool) (had : b2 = true → ∀ c ∈ b.data.toList, dgt c = true)
    (h1 : ∀ w, Calls Tryz.prog 71 #[.string a] w (SmallEnd x b1 w))
    (h2 : ∀ w, Calls Tryz.prog 100 #[.string b] w (SmallEnd y b2 w)) :
    Calls Tryz.prog 70 #[.string a, .string b] w (VEnd (x * D + y, D, b1 && b2) w) := by
  have hb' : ¬ (4 : Int) < (b.size : Int) := by omega
  have hD4 : D ≤ 10000 := by rw [hD]; exact (ten_pow _ hb).1
  obtain ⟨e1, e2⟩ := prod_wrap x D y hx (by omega) (by omega)
  have HD := Lib.hid hD
  have HA := Lib.hid had
  have H1 := Lib.hid h1
  have H2 := Lib.hid h2
  clear h1 h2 hD had
  go_enter Tryz.func70, Tryz.ntmps70
  go_wp2_with fail
  refine (H1.out _).mono ?_
  rintro e w1 ⟨rfl, bb⟩
  have B0 := bb
  clear bb
  go_wp2_with fail
  refine (H2.out _).mono ?_
  rintro e w2 ⟨rfl, bb⟩
  have B0 := B0.trans (bb.mono B0.size)
  clear bb
  have HB0 := Lib.hid B0
  clear B0
  go_wp2
  go_loopw [5] (fun z w' => ∃ (pos : Nat) (n : Int), w' = w2.iter b pos ∧ z = .int .i64 n ∧ Hid (b2 = true → pos ≤ b.size ∧ n = ((10 ^ pos : Nat) : Int))) (fun _ w' => b.size - w'.iterPos w2.heap.size)
  case atStart => exact ⟨0, 1, rfl, rfl, fun _ => ⟨by omega, by simp⟩⟩
  case round =>
    obtain ⟨pos, n, rfl, rfl, H⟩ := hrel
    by_cases hp : pos < b.size
    · by_cases h2t : b2 = true
      · have hdg := HA.out h2t _ (List.mem_of_getElem? (byte_at b pos hp))
        have ha : (b[pos]'hp).toNat < 128 := by have := dgt_toNat hdg; omega
        have hnx : ∀ ty, (Instr.next (.pointer (some ⟨w2.heap.size, 0, none⟩)) true ty).run Tryz.prog (w2.iter b pos) = _ := fun ty => run_next_ascii w2 b pos ty hp ha
        obtain ⟨hpo, hn⟩ := H.out h2t
        have hT := (ten_pow pos (by omega)).2 (by omega)
        have hwr : IntKind.i64.wrap (n * 10) = n * 10 := by
          rw [IntKind.wrap_i64]
          generalize 10 ^ pos = T at hn hT
          omega
        have HN := Lib.hid hn
        clear hn hdg ha hT hpo h2t
        go_wp2
        go_roundw
        case rel =>
          refine ⟨pos + 1, n * 10, rfl, rfl, fun h => ⟨by omega, ?_⟩⟩
          rw [HN.out, Nat.pow_succ]; push_cast; rfl
        case measure =>
          simp
          omega
      · obtain ⟨r, k, hk, hnx⟩ := next_any (P := Tryz.prog) w2 b pos hp
        have HT := Lib.hid h2t
        clear h2t
        go_wp2
        go_roundw
        case rel => exact ⟨pos + k, _, rfl, rfl, fun h => absurd h HT.out⟩
        case measure =>
          simp
          omega
    · have hnx : ∀ ty, (Instr.next (.pointer (some ⟨w2.heap.size, 0, none⟩)) true ty).run Tryz.prog (w2.iter b pos) = _ := fun ty => run_next_end w2 b pos ty hp
      have hbe := HB0.out.trans ((iter_below w2 b pos).mono HB0.out.size)
      by_cases h2t : b2 = true
      · obtain ⟨hpo, hn⟩ := H.out h2t
        have he : pos = b.size := by omega
        rw [he, ← HD.out] at hn
        clear he hpo
        subst hn
        subst h2t
        have HBE := Lib.hid hbe
        clear hbe
        cases b1
        · go_wp2
          go_ret3
          exact ⟨_, _, rfl, fun h => (by cases h), HBE.out⟩
        · go_wp2
          go_ret3
          exact ⟨_, _, rfl, fun h => ⟨by push_cast; rfl, rfl⟩, HBE.out⟩
      · have h2f : b2 = false := by simpa using h2t
        subst h2f
        have HBE := Lib.hid hbe
        clear hbe
        cases b1
        · go_wp2
          go_ret3
          exact ⟨_, _, rfl, fun h => (by cases h), HBE.out⟩
        · go_wp2
          go_ret3
          exact ⟨_, _, rfl, fun h => (by cases h), HBE.out⟩
theorem pdec_walk (a b : List UInt8) (w : World) (ha : a.length ≤ 900) : Calls Tryz.prog 70 #[.string (ofL a), .string (ofL b)] w (VEnd (pDec a b) w) := by
  by_cases hb : 4 < b.length
  · have := pdec_long (ofL a) (ofL b) w (by rw [ofL_size]; exact hb)
    simpa only [pDec, hb, if_true] using this
  · have hbs : (ofL b).size ≤ 4 := by rw [ofL_size]; omega
    have := pdec_short (ofL a) (ofL b) w hbs (pWh a).1 (pDig b).1 (10 ^ b.length) (pWh_lt a) (pDig_lt b 4 (by omega)) (by rw [ofL_size]) (pWh a).2 (pDig b).2 (fun h => by
      simp only [pDig] at h
      split at h
      · rename_i h1; exact List.all_eq_true.1 h1
      · cases h) (pwh_at a (by omega)) (fun w => pdig_walk (ofL b) w (by omega))
    simpa only [pDec, hb, if_false] using this
theorem pval_slash (s p r : ByteArray) (v : Nat × Nat × Bool) (w : World) (hc : ∀ w, Calls Tryz.prog 68 #[.string s, .string ⟨#[47]⟩] w (Cut2 p r true w)) (hv : ∀ w, Calls Tryz.prog 69 #[.string p, .string r] w (VEnd v w)) : Calls Tryz.prog 36 #[.string s] w (VEnd v w) := by
  have HC := Lib.hid hc
  have HV := Lib.hid hv
  clear hc hv
  go_enter Tryz.func36, Tryz.ntmps36
  go_wp2_with fail
  refine (HC.out _).mono ?_
  rintro e w1 ⟨rfl, bb⟩
  have B0 := bb
  clear bb
  go_wp2_with fail
  refine (HV.out _).mono ?_
  rintro e w2 ⟨x, y, rfl, hxy, bb⟩
  have B0 := B0.trans (bb.mono B0.size)
  clear bb
  have HX := Lib.hid hxy
  clear hxy
  go_wp2
  go_ret3
  exact ⟨_, _, rfl, HX.out, B0⟩
theorem pval_dot (s p r p' r' : ByteArray) (v : Nat × Nat × Bool) (w : World) (hc : ∀ w, Calls Tryz.prog 68 #[.string s, .string ⟨#[47]⟩] w (Cut2 p r false w)) (hd : ∀ w, Calls Tryz.prog 68 #[.string s, .string ⟨#[46]⟩] w (Cut2 p' r' true w)) (hv : ∀ w, Calls Tryz.prog 70 #[.string p', .string r'] w (VEnd v w)) : Calls Tryz.prog 36 #[.string s] w (VEnd v w) := by
  have HC := Lib.hid hc
  have HD := Lib.hid hd
  have HV := Lib.hid hv
  clear hc hd hv
  go_enter Tryz.func36, Tryz.ntmps36
  go_wp2_with fail
  refine (HC.out _).mono ?_
  rintro e w1 ⟨rfl, bb⟩
  have B0 := bb
  clear bb
  go_wp2_with fail
  refine (HD.out _).mono ?_
  rintro e w2 ⟨rfl, bb⟩
  have B0 := B0.trans (bb.mono B0.size)
  clear bb
  go_wp2_with fail
  refine (HV.out _).mono ?_
  rintro e w3 ⟨x, y, rfl, hxy, bb⟩
  have B0 := B0.trans (bb.mono B0.size)
  clear bb
  have HX := Lib.hid hxy
  clear hxy
  go_wp2
  go_ret3
  exact ⟨_, _, rfl, HX.out, B0⟩
theorem pval_plain (s p r p' r' : ByteArray) (x : Nat) (f : Bool) (w : World) (hc : ∀ w, Calls Tryz.prog 68 #[.string s, .string ⟨#[47]⟩] w (Cut2 p r false w)) (hd : ∀ w, Calls Tryz.prog 68 #[.string s, .string ⟨#[46]⟩] w (Cut2 p' r' false w)) (hv : ∀ w, Calls Tryz.prog 71 #[.string s] w (SmallEnd x f w)) : Calls Tryz.prog 36 #[.string s] w (VEnd (x, 1, f) w) := by
  have HC := Lib.hid hc
  have HD := Lib.hid hd
  have HV := Lib.hid hv
  clear hc hd hv
  go_enter Tryz.func36, Tryz.ntmps36
  go_wp2_with fail
  refine (HC.out _).mono ?_
  rintro e w1 ⟨rfl, bb⟩
  have B0 := bb
  clear bb
  go_wp2_with fail
  refine (HD.out _).mono ?_
  rintro e w2 ⟨rfl, bb⟩
  have B0 := B0.trans (bb.mono B0.size)
  clear bb
  go_wp2_with fail
  refine (HV.out _).mono ?_
  rintro e w3 ⟨rfl, bb⟩
  have B0 := B0.trans (bb.mono B0.size)
  clear bb
  go_wp2
  go_ret3
  exact ⟨_, _, rfl, fun _ => ⟨rfl, rfl⟩, B0⟩
theorem pval_walk (l : List UInt8) (w : World) (hl : l.length ≤ 900) : Calls Tryz.prog 36 #[.string (ofL l)] w (VEnd (pVal l) w) := by
  have h47 := cut_len 47 l
  have h46 := cut_len 46 l
  have hs : (ofL l).size ≤ 100000 := by rw [ofL_size]; omega
  by_cases hf : (cutAt 47 l).2.2 = true
  · have := pval_slash (ofL l) (ofL (cutAt 47 l).1) (ofL (cutAt 47 l).2.1) _ w (cut2 47 (ofL l) true hs hf) (fun w => pfrac_walk (cutAt 47 l).1 (cutAt 47 l).2.1 w (by omega) (by omega))
    simpa only [pVal, hf, if_true] using this
  · have hf : (cutAt 47 l).2.2 = false := by simpa using hf
    by_cases hg : (cutAt 46 l).2.2 = true
    · have := pval_dot (ofL l) (ofL (cutAt 47 l).1) (ofL (cutAt 47 l).2.1) (ofL (cutAt 46 l).1) (ofL (cutAt 46 l).2.1) _ w (cut2 47 (ofL l) false hs hf) (cut2 46 (ofL l) true hs hg) (fun w => pdec_walk (cutAt 46 l).1 (cutAt 46 l).2.1 w (by omega))
      simpa only [pVal, hf, hg, if_true, if_false, Bool.false_eq_true] using this
    · have hg : (cutAt 46 l).2.2 = false := by simpa using hg
      have := pval_plain (ofL l) (ofL (cutAt 47 l).1) (ofL (cutAt 47 l).2.1) (ofL (cutAt 46 l).1) (ofL (cutAt 46 l).2.1) _ _ w (cut2 47 (ofL l) false hs hf) (cut2 46 (ofL l) false hs hg) (pwh_at l (by omega))
      simpa only [pVal, hf, hg, if_false, Bool.false_eq_true] using this
end Go.Proofs.YtohlilgnognmgaaGreatDoor
