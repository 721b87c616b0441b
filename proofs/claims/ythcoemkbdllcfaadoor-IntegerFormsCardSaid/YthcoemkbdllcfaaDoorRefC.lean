/-
  The walk of garmentref01.Mul.
-/
import Derived.Test.YthcoemkbdllcfaaDoorRefN
namespace Go.Proofs.YthcoemkbdllcfaaDoor
open Go.RowKit

theorem limb_z (A : Option Addr) (n c i : Nat) (z : Int) (l : List Nat) (w : World) (hz : z = (i : Int)) (hn : l.length = n) (hb : n ≤ 9223372036854775807) (hi : i ≤ 1000000000) (hL : Num.Lim l) (h : Cel w (fun _ => True) A l) :
    Calls Tryd.prog 65 #[.slice A n c, .int .i64 z] w fun e w' => e = .returned (.int .u64 (lm l i : Int)) ∧ w = w' := by
  subst hz
  exact limb_walk A n c i l w hn hb hi hL h

set_option maxRecDepth 4000 in
set_option maxHeartbeats 2000000 in
theorem rmul_walk (va vb : Value) (la lb : List Nat) (w : World) (ha : Rd w (fun _ => True) va la) (hb : Rd w (fun _ => True) vb lb) (hla : la.length ≤ 10000) (hlb : lb.length ≤ 10000) :
    Calls Tryd.prog 56 #[va, vb] w (NumNew (Num.val la * Num.val lb) w) := by
  obtain ⟨i0, hi, hz0, hz1, hz2⟩ := info_parts info_u32
  obtain ⟨A, n, c, rfl, Hn, hnc, hc, HLa, hA⟩ := ha.open_
  obtain ⟨B, m, d, rfl, Hm, hmd, hd, HLb, hB⟩ := hb.open_
  have hn : n ≤ 10000 := by have := Hn.out; omega
  have hm : m ≤ 10000 := by have := Hm.out; omega
  clear hla hlb ha hb
  have hA1 := hA.old
  have hB1 := hB.old
  clear hA hB
  go_enter Tryd.func56, Tryd.ntmps56
  go_wp2_with (at_make; refine wpList_make_u32 _ rfl (.tmp 14) (.tmp 14) 23 rfl 46 i0 Tryd.underlying23 hi hz0 hz1 hz2 .i64 .i64 _ _ (n + m) rfl rfl (by omega) (by omega) (by omega) ?_; intro g w1 hg1 hown1 hb1 hs1; have Hg := Lib.hid hg1; clear hg1)
  have hA2 : Cel w1 (· ≠ g) A la := hA1.keep (fun i hi => by have := Hg.out; have := hi.2; omega) (fun i o hi => hb1.cell (p := ⟨i, o, none⟩) hi.2)
  have hB2 : Cel w1 (· ≠ g) B lb := hB1.keep (fun i hi => by have := Hg.out; have := hi.2; omega) (fun i o hi => hb1.cell (p := ⟨i, o, none⟩) hi.2)
  clear hA1 hB1
  go_loopw [6] (fun i wr => ∃ k : Nat, k ≤ n ∧ i = .int .i64 k ∧ MulInv 46 g (n + m) k m la lb w1 wr) (fun i _ => n - (intOf i).toNat)
  case atStart => exact ⟨0, Nat.zero_le _, rfl, _, by simp, Num.Lim.replicate _, by simp [Num.val, List.take_replicate, Num.val_replicate], hown1, only_refl _ _⟩
  case round =>
    obtain ⟨k, hk, rfl, l, hl, hL, hv, hown, hgr⟩ := hrel
    have Hl := Lib.hid hl
    have HL := Lib.hid hL
    have Hv := Lib.hid hv
    clear hl hL hv
    by_cases hlt : k < n
    · obtain ⟨x, hx⟩ : ∃ x, la[k]? = some x := ⟨_, List.getElem?_eq_getElem (by have := Hn.out; omega)⟩
      have hxb : x < 4294967296 := HLa.out.at hx
      have L1 := Lib.hid (fun w => limb_walk A n c k la w Hn.out (by omega) (by omega) HLa.out)
      rw [lm_at hx] at L1
      have Hx := Lib.hid hx
      clear hx
      have hA3 : Cel wr (· ≠ g) A la := hA2.only (fun _ h => h) hgr
      have hB3 : Cel wr (· ≠ g) B lb := hB2.only (fun _ h => h) hgr
      obtain ⟨wo, hwo⟩ : ∃ wo : World, wo = wr := ⟨_, rfl⟩
      subst hwo
      go_wp2
      go_loopw [7, 8] (fun cy j wr => ∃ q : Nat, q ≤ m ∧ j = .int .i64 q ∧ ∃ cr : Nat, cr < 4294967296 ∧ cy = .int .u64 cr ∧ ProdInv 46 g k q cr x l lb wo wr) (fun _ j _ => m - (intOf j).toNat)
      case atStart => exact ⟨0, Nat.zero_le _, rfl, 0, by omega, rfl, ProdInv.start hown⟩
      case round =>
        obtain ⟨q, hq, rfl, cr, hcr, rfl, hinv⟩ := hrel
        by_cases hlq : q < m
        · obtain ⟨y, hy⟩ : ∃ y, lb[q]? = some y := ⟨_, List.getElem?_eq_getElem (by have := Hm.out; omega)⟩
          have hyb : y < 4294967296 := HLb.out.at hy
          obtain ⟨s, hs⟩ : ∃ s, l[k + q]? = some s := ⟨_, List.getElem?_eq_getElem (by have := Hl.out; omega)⟩
          have hsb : s < 4294967296 := HL.out.at hs
          have hcell := hinv.cell hs
          have hfr := hinv.frozen (k + q)
          have L2 := Lib.hid (fun w => limb_walk B m d q lb w Hm.out (by omega) (by omega) HLb.out)
          rw [lm_at hy] at L2
          have hopen := hinv
          obtain ⟨r, hr, hLr, _, how, hgw⟩ := hopen
          have hmid : (mid l k r).length = n + m := by rw [mid_length l k r (by have := Hl.out; omega)]; exact Hl.out
          have hmv : lm (mid l k r) (k + q) = s := lm_at (by rw [mid_at l k r (by have := Hl.out; omega) q (by omega)]; exact hs)
          have L3 := Lib.hid (fun z hz w => limb_z (some ⟨g, 0, none⟩) (n + m) (n + m) (k + q) z (mid l k r) w hz hmid (by omega) (by omega) (mid_lim HL.out hLr))
          rw [hmv] at L3
          have hS := how.celTop
          have hA4 : Cel wr (fun _ => True) A la := (hA3.only (fun _ h => h) hgw).mono (fun _ _ => trivial)
          have hB4 : Cel wr (fun _ => True) B lb := (hB3.only (fun _ h => h) hgw).mono (fun _ _ => trivial)
          have Hs := Lib.hid hs
          have Hy := Lib.hid hy
          clear hs hy hmid hmv how hgw hr hLr
          have hp0 : (0 : Int) ≤ (x : Int) * (y : Int) := Int.mul_nonneg (by omega) (by omega)
          have HP : Hid ((x : Int) * (y : Int) = ((y * x : Nat) : Int)) := by show _ = _; rw [Nat.mul_comm, Int.natCast_mul]
          have HB := Lib.hid (mul_bound y x hyb hxb)
          have hp1 : (x : Int) * (y : Int) ≤ 18446744065119617025 := by have := HP.out; have := HB.out; omega
          go_wp2_with fail
          refine (L1.out _ hA4).mono ?_
          rintro e w' ⟨rfl, rfl⟩
          go_wp2_with fail
          refine (L2.out _ hB4).mono ?_
          rintro e w' ⟨rfl, rfl⟩
          go_wp2_with fail
          refine (L3.out _ (by omega) _ hS).mono ?_
          rintro e w' ⟨rfl, rfl⟩
          go_wp2
          go_roundw
          case rel =>
            have e1 := HP.out
            have e2 := HB.out
            exact ⟨q + 1, by omega, by go_num, (cr + (y * x + s)) / 4294967296, by omega, int_u64 (by omega), hinv.step Hs.out Hy.out _ (by omega)⟩
          case measure => simp [intOf]; omega
        · obtain rfl : q = m := by omega
          obtain ⟨r, hk', hr, hv', hw⟩ := hinv
          have hpost : ProdPost 46 g k q x cr l lb wo wr := ⟨r, hk', hr, by rw [hv', List.take_of_length_le (l := lb) (by have := Hm.out; omega)], hw⟩
          have hfr : wr.frozen? ⟨g, k + q, none⟩ = false := hw.1.frozen _
          obtain ⟨u, hu⟩ : ∃ u, wr.cell? ⟨g, k + q, none⟩ = some u := by
            have := hw.1.cel (k + q) _ (List.getElem?_eq_getElem (by rw [mid_length l k r (by have := Hl.out; omega)]; have := Hl.out; omega))
            rw [Nat.zero_add] at this
            exact ⟨_, this⟩
          have hstep := MulInv.step (N := n + q) Hl.out HL.out Hv.out hgr Hx.out (by omega) hcr hpost
          clear hpost hown hw hv' hr hk'
          go_wp2
          go_roundw
          case rel => exact ⟨k + 1, by omega, by go_num, hstep⟩
          case measure => simp [intOf]; omega
    · have hkk : k = n := by omega
      have Hkk := Lib.hid hkk
      clear hkk
      have hrd : Rd wr (fun _ => True) (.slice (some ⟨g, 0, none⟩) (n + m) (n + m)) l := by have := hown.rd (fun _ => True) trivial HL.out (by have := Hl.out; omega); rwa [Hl.out] at this
      go_wp2_with fail
      refine (rnorm_walk _ l wr hrd (by have := Hl.out; omega)).mono ?_
      rintro e w4 ⟨v, rfl, l4, hr4, hn4, hv4, hb4⟩
      go_wp2
      go_ret
      have hbw : Below w.heap.size w wr := hb1.trans ⟨hgr.os, hgr.tape, hgr.output, hgr.size, fun i hi => hgr.block i (Nat.lt_of_lt_of_le hi hb1.size) (by intro e; injection e with e; have := Hg.out; omega)⟩
      refine ⟨v, rfl, l4, hr4.mono (fun _ h => Nat.le_trans hbw.size h), hn4, ?_, hbw.trans (hb4.mono hbw.size)⟩
      have h1 := Hv.out
      rw [Hkk.out, List.take_of_length_le (l := l) (by have := Hl.out; omega), List.take_of_length_le (l := la) (by have := Hn.out; omega)] at h1
      rw [hv4, h1]
end Go.Proofs.YthcoemkbdllcfaaDoor
