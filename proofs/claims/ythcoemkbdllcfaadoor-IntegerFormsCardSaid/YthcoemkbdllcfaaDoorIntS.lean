/-
  The walk of integer.Small.
-/
import Derived.Test.YthcoemkbdllcfaaDoorIntD
import Derived.Deep.RegionWith
import Derived.Laws.BitsAllLaws
namespace Go.Proofs.YthcoemkbdllcfaaDoor
open Go.RowKit
attribute [local go_sem ↓] Go.wp_at_zero Go.wp_at_succ
set_option linter.unusedVariables false

theorem or_hi (s y : Nat) (hs : s < 4294967296) (hy : y < 4294967296) : bits .or .i64 (s : Int) (wrap64 ((y : Int) * 4294967296)) = wrap64 ((y * 4294967296 + s : Nat) : Int) := by
  have e1 : (BitVec.ofInt 64 (wrap64 ((y : Int) * 4294967296))).toNat = y * 4294967296 := by
    rw [BitVec.toNat_ofInt]
    unfold wrap64
    omega
  show IntKind.i64.wrap ((BitVec.ofInt 64 (s : Int) ||| BitVec.ofInt 64 (wrap64 ((y : Int) * 4294967296))).toNat : Int) = _
  rw [BitVec.toNat_or, ofInt_u64 s (by omega), e1, Nat.or_comm, nat_join 32 (y * 4294967296) s (by omega) (by omega)]
  rw [IntKind.wrap_i64]
  unfold wrap64
  omega
theorem or_lo (y : Nat) (hy : y < 4294967296) : bits .or .i64 0 (y : Int) = (y : Int) := by
  show IntKind.i64.wrap ((BitVec.ofInt 64 (0 : Int) ||| BitVec.ofInt 64 (y : Int)).toNat : Int) = _
  rw [BitVec.toNat_or, ofInt_u64 y (by omega)]
  simp
  rw [IntKind.wrap_i64]
  omega
theorem take_one (l : List Nat) (x : Nat) (h : l[0]? = some x) : Num.val (l.take 1) = x := by
  have := val_take_succ l 0 x h
  simpa [Num.val] using this
theorem take_two (l : List Nat) (x y : Nat) (h : l[0]? = some x) (h' : l[1]? = some y) : y * 4294967296 + x = Num.val (l.take 2) := by
  have h1 := val_take_succ l 1 y h'
  rw [take_one l x h, Nat.pow_one, Num.K_eq] at h1
  rw [show 2 = 1 + 1 from rfl, h1]
  omega
theorem wrap_id (m : Int) (h1 : -9223372036854775808 ≤ m) (h2 : m < 9223372036854775808) : wrap64 m = m := by unfold wrap64; omega
theorem neg_wrap (m : Nat) (h : m ≤ 9223372036854775808) : wrap64 (-(wrap64 (m : Int))) = -(m : Int) := by
  rcases Nat.lt_or_ge m 9223372036854775808 with h1 | h1
  · rw [wrap_id (m : Int) (by omega) (by omega), wrap_id (-(m : Int)) (by omega) (by omega)]
  · have e : (m : Int) = 9223372036854775808 := by omega
    have e2 : wrap64 (9223372036854775808 : Int) = -9223372036854775808 := by unfold wrap64; omega
    have e3 : wrap64 (-(-9223372036854775808 : Int)) = -9223372036854775808 := by unfold wrap64; omega
    rw [e, e2, e3]
def SmallEnd (n : Int) (b : Bool) (w : World) (e : Ending) (w' : World) : Prop := e = .returned (.tuple #[.int .i64 n, .bool b]) ∧ Below w.heap.size w w'
set_option maxRecDepth 20000 in
set_option maxHeartbeats 1000000 in
theorem ismall_lo {w : World} {b : Bool} {A : Option Addr} {n c m k : Nat} (hm : Nm w (.slice A n c) m k) (hk : k ≤ 900) (h : sgn b m < -9223372036854775808) : Calls Tryd.prog 34 #[.agg #[.bool b, .slice A n c]] w (SmallEnd 0 false w) := by
  obtain ⟨c1, hc1, h1⟩ : ∃ c1 : Int, c1 < 0 ∧ cmpZ (sgn b m) (-9223372036854775808) = c1 := ⟨_, by have := cmpZ_cases (sgn b m) (-9223372036854775808); omega, rfl⟩
  have H1 := Lib.hid h1
  clear h1 h
  have B0 := below_a1 w (.cells #[.bool b, .slice A n c] 25)
  have hm := hm.below B0
  have ka := (Bx.new w (w.heap.size) (by simp) (.bool b) (.slice A n c))
  go_enter Tryd.func34, Tryd.ntmps34
  go_wp2_with fail
  have hm := hm.drew
  have ka := ka.drew
  have B0 := b_drew B0
  have ka0 := ka.1
  have ka1 := ka.2
  go_region_with (first
      | (go_at_call 36; (with_reducible refine (iof_i (-9223372036854775808) (by decide) (by decide) _).mono ?_); rintro e w1 ⟨v1, rfl, z1, bb⟩; have hm := hm.below bb; have ka := ka.below bb; have B0 := B0.trans (bb.mono B0.size); clear bb; have ka0 := ka.1; have ka1 := ka.2)
      | (go_at_call 17; (with_reducible refine (icmp_i (hm.iv b) z1.iv _ H1.out).mono ?_); rintro e w2 ⟨rfl, bb⟩; have hm := hm.below bb; have ka := ka.below bb; have z1 := z1.below bb; have B0 := B0.trans (bb.mono B0.size); clear bb; have ka0 := ka.1; have ka1 := ka.2))
  all_goals go_wp2
  all_goals go_ret2
  all_goals exact ⟨rfl, B0⟩
set_option maxRecDepth 20000 in
set_option maxHeartbeats 1000000 in
theorem ismall_hi {w : World} {b : Bool} {A : Option Addr} {n c m k : Nat} (hm : Nm w (.slice A n c) m k) (hk : k ≤ 900) (h : 9223372036854775807 < sgn b m) : Calls Tryd.prog 34 #[.agg #[.bool b, .slice A n c]] w (SmallEnd 0 false w) := by
  obtain ⟨c1, hc1, h1⟩ : ∃ c1 : Int, 0 ≤ c1 ∧ cmpZ (sgn b m) (-9223372036854775808) = c1 := ⟨_, by have := cmpZ_cases (sgn b m) (-9223372036854775808); omega, rfl⟩
  obtain ⟨c2, hc2, h2⟩ : ∃ c2 : Int, 0 < c2 ∧ cmpZ (sgn b m) (9223372036854775807) = c2 := ⟨_, by have := cmpZ_cases (sgn b m) (9223372036854775807); omega, rfl⟩
  have H1 := Lib.hid h1
  have H2 := Lib.hid h2
  clear h1 h2 h
  have hd1 : decide (c1 < 0) = false := decide_eq_false (by omega)
  have hd2 : decide (0 < c2) = true := decide_eq_true hc2
  have B0 := below_a1 w (.cells #[.bool b, .slice A n c] 25)
  have hm := hm.below B0
  have ka := (Bx.new w (w.heap.size) (by simp) (.bool b) (.slice A n c))
  go_enter Tryd.func34, Tryd.ntmps34
  go_wp2_with fail
  have hm := hm.drew
  have ka := ka.drew
  have B0 := b_drew B0
  go_region_held3 (fun w' => w'.cell? ⟨w.heap.size, 0, none⟩ = some (.bool b) ∧ w'.cell? ⟨w.heap.size, 1, none⟩ = some (.slice A n c)) (first | exact ⟨ka.1, ka.2⟩)
    (first
      | (go_at_call 36; (with_reducible refine (iof_i (-9223372036854775808) (by decide) (by decide) _).mono ?_); rintro e w1 ⟨v1, rfl, z1, bb⟩; have hm := hm.below bb; have ka := ka.below bb; have B0 := B0.trans (bb.mono B0.size); clear bb)
      | (go_at_call 17; (with_reducible refine (icmp_i (hm.iv b) z1.iv _ H1.out).mono ?_); rintro e w2 ⟨rfl, bb⟩; have hm := hm.below bb; have ka := ka.below bb; have z1 := z1.below bb; have B0 := B0.trans (bb.mono B0.size); clear bb)
      | (go_at_call 36; (with_reducible refine (iof_i 9223372036854775807 (by decide) (by decide) _).mono ?_); rintro e w3 ⟨v2, rfl, z2, bb⟩; have hm := hm.below bb; have ka := ka.below bb; have B0 := B0.trans (bb.mono B0.size); clear bb)
      | (go_at_call 17; (with_reducible refine (icmp_i (hm.iv b) z2.iv _ H2.out).mono ?_); rintro e w4 ⟨rfl, bb⟩; have hm := hm.below bb; have ka := ka.below bb; have z2 := z2.below bb; have B0 := B0.trans (bb.mono B0.size); clear bb))
  go_wp2
  go_ret2
  exact ⟨rfl, B0⟩
set_option maxRecDepth 20000 in
set_option maxHeartbeats 1000000 in
theorem ismall_in {w : World} {b : Bool} {A : Option Addr} {n c m k : Nat} (hm : Nm w (.slice A n c) m k) (hk : k ≤ 900) (h1 : -9223372036854775808 ≤ sgn b m) (h2 : sgn b m ≤ 9223372036854775807) : Calls Tryd.prog 34 #[.agg #[.bool b, .slice A n c]] w (SmallEnd (sgn b m) true w) := by
  obtain ⟨c1, hc1, h1'⟩ : ∃ c1 : Int, 0 ≤ c1 ∧ cmpZ (sgn b m) (-9223372036854775808) = c1 := ⟨_, by have := cmpZ_cases (sgn b m) (-9223372036854775808); omega, rfl⟩
  obtain ⟨c2, hc2, h2'⟩ : ∃ c2 : Int, c2 ≤ 0 ∧ cmpZ (sgn b m) (9223372036854775807) = c2 := ⟨_, by have := cmpZ_cases (sgn b m) (9223372036854775807); omega, rfl⟩
  have H1 := Lib.hid h1'
  have H2 := Lib.hid h2'
  clear h1' h2'
  have hd1 : decide (c1 < 0) = false := decide_eq_false (by omega)
  have hd2 : decide (0 < c2) = false := decide_eq_false (by omega)
  have hmb : m ≤ 9223372036854775808 := by have := sgn_abs b m; omega
  have HA := Lib.hid h1
  have HB := Lib.hid h2
  clear h1 h2
  have B0 := below_a1 w (.cells #[.bool b, .slice A n c] 25)
  have hm := hm.below B0
  have ka := (Bx.new w (w.heap.size) (by simp) (.bool b) (.slice A n c))
  go_enter Tryd.func34, Tryd.ntmps34
  go_wp2_with fail
  have hm := hm.drew
  have ka := ka.drew
  have B0 := b_drew B0
  go_region_held3 (fun w' => w'.cell? ⟨w.heap.size, 0, none⟩ = some (.bool b) ∧ w'.cell? ⟨w.heap.size, 1, none⟩ = some (.slice A n c)) (first | exact ⟨ka.1, ka.2⟩)
    (first
      | (go_at_call 36; (with_reducible refine (iof_i (-9223372036854775808) (by decide) (by decide) _).mono ?_); rintro e w1 ⟨v1, rfl, z1, bb⟩; have hm := hm.below bb; have ka := ka.below bb; have B0 := B0.trans (bb.mono B0.size); clear bb)
      | (go_at_call 17; (with_reducible refine (icmp_i (hm.iv b) z1.iv _ H1.out).mono ?_); rintro e w2 ⟨rfl, bb⟩; have hm := hm.below bb; have ka := ka.below bb; have z1 := z1.below bb; have B0 := B0.trans (bb.mono B0.size); clear bb)
      | (go_at_call 36; (with_reducible refine (iof_i 9223372036854775807 (by decide) (by decide) _).mono ?_); rintro e w3 ⟨v2, rfl, z2, bb⟩; have hm := hm.below bb; have ka := ka.below bb; have B0 := B0.trans (bb.mono B0.size); clear bb)
      | (go_at_call 17; (with_reducible refine (icmp_i (hm.iv b) z2.iv _ H2.out).mono ?_); rintro e w4 ⟨rfl, bb⟩; have hm := hm.below bb; have ka := ka.below bb; have z2 := z2.below bb; have B0 := B0.trans (bb.mono B0.size); clear bb))
  have ka0 := ka.1
  have ka1 := ka.2
  go_wp2_with fail
  refine (norm_n hm (by omega)).mono ?_
  clear ka0 ka1
  rintro e w5 ⟨v1, rfl, z1, bb⟩
  have hm := hm.below bb
  have ka := ka.below bb
  have B0 := B0.trans (bb.mono B0.size)
  clear bb
  obtain ⟨l, hr, hn, hv, hl⟩ := z1
  have hl2 : l.length ≤ 2 := hn.len_le (by rw [hv]; exact Nat.lt_of_le_of_lt hmb (by decide))
  obtain ⟨A2, n2, c2', rfl, Hn, hlc, hcc, HL, hA⟩ := hr.open_
  have hn2 : n2 ≤ 2 := by have := Hn.out; omega
  have HV := Lib.hid hv
  clear hv hn hl hl2
  have ka0 := ka.1
  have ka1 := ka.2
  go_wp2
  go_loop [4, 21] (fun x i => ∃ k : Nat, k ≤ n2 ∧ i = .int .i64 k ∧ ∃ s : Int, x = .int .i64 s ∧ Hid (s = wrap64 (Num.val (l.take k)))) (fun _ i => n2 - (intOf i).toNat)
  case atStart => exact ⟨0, Nat.zero_le _, rfl, 0, rfl, by show (0 : Int) = _; simp [Num.val, wrap64]⟩
  case round =>
    obtain ⟨k, hk, rfl, s, rfl, Hs⟩ := hrel
    by_cases hlt : k < n2
    · obtain ⟨y, hy⟩ : ∃ y, l[k]? = some y := ⟨_, List.getElem?_eq_getElem (by have := Hn.out; omega)⟩
      have hyb : y < 4294967296 := HL.out.at hy
      obtain ⟨g, off, rfl, _, hc⟩ := hA (by have := Hn.out; omega)
      have hcy := hc _ _ hy
      have Hy := Lib.hid hy
      clear hc hy
      by_cases h0 : k = 0
      · subst h0
        have hs0 : s = 0 := by rw [Hs.out]; simp [Num.val, wrap64]
        subst hs0
        rw [Nat.add_zero] at hcy
        have hor := or_lo y hyb
        go_wp2
        go_round
        case rel => exact ⟨1, by omega, rfl, (y : Int), rfl, by show (y : Int) = _; rw [take_one l y Hy.out]; unfold wrap64; omega⟩
        case measure => simp [intOf] <;> omega
      · obtain rfl : k = 1 := by omega
        obtain ⟨x, hx⟩ : ∃ x, l[0]? = some x := ⟨_, List.getElem?_eq_getElem (by have := Hn.out; omega)⟩
        have hxb : x < 4294967296 := HL.out.at hx
        have hor := or_hi x y hxb hyb
        have hv : s = (x : Int) := by
          rw [Hs.out, take_one l x hx]
          unfold wrap64
          omega
        subst hv
        clear h0
        have Hx := Lib.hid hx
        clear hx
        go_wp2
        go_round
        case rel => exact ⟨2, by omega, rfl, _, rfl, by show wrap64 _ = wrap64 _; rw [← take_two l x y Hx.out Hy.out]; congr 1⟩
        case measure => simp [intOf] <;> omega
    · have hs : s = wrap64 (m : Int) := by rw [Hs.out, List.take_of_length_le (by have := Hn.out; omega), HV.out]
      have hz1 := HA.out
      have hz2 := HB.out
      have BE := Lib.hid B0
      clear B0
      cases b
      · have hs' : s = (m : Int) := by rw [hs]; simp only [sgn_false] at hz2; exact wrap_id _ (by omega) (by omega)
        clear hs hz1 hz2
        subst hs'
        go_wp2
        go_ret2
        exact ⟨rfl, BE.out⟩
      · have hs' : wrap64 (-s) = -(m : Int) := by rw [hs]; exact neg_wrap m hmb
        have HS := Lib.hid hs'
        clear hs hz1 hz2 hs'
        go_wp2
        go_ret2
        rw [sgn_true, ← HS.out]
        exact ⟨rfl, BE.out⟩
theorem ismall_yes {w : World} {v : Value} {z : Int} {k : Nat} (h : Iv w v z k) (hk : k ≤ 900) (h1 : -9223372036854775808 ≤ z) (h2 : z ≤ 9223372036854775807) : Calls Tryd.prog 34 #[v] w (SmallEnd z true w) := by
  obtain ⟨b, A, n, c, m, rfl, hm, rfl⟩ := h
  exact ismall_in hm hk h1 h2
theorem ismall_no {w : World} {v : Value} {z : Int} {k : Nat} (h : Iv w v z k) (hk : k ≤ 900) (h1 : z < -9223372036854775808 ∨ 9223372036854775807 < z) : Calls Tryd.prog 34 #[v] w (SmallEnd 0 false w) := by
  obtain ⟨b, A, n, c, m, rfl, hm, rfl⟩ := h
  rcases h1 with h1 | h1
  · exact ismall_lo hm hk h1
  · exact ismall_hi hm hk h1
end Go.Proofs.YthcoemkbdllcfaaDoor
