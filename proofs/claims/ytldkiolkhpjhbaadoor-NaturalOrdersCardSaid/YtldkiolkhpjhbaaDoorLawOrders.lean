/-
  The walk of garmentlaw01.NaturalOrders: it returns true, whatever the numbers.
-/
import Derived.Test.YtldkiolkhpjhbaaDoorRefN
namespace Go.Proofs.YtldkiolkhpjhbaaDoor
open Go.RowKit

theorem cmp_cases (a b : Nat) : ∃ c c' : Int, cmpI a b = c ∧ cmpI b a = c' ∧ ((c = -1 ∧ c' = 1) ∨ (c = 0 ∧ c' = 0) ∨ (c = 1 ∧ c' = -1)) := by
  rcases Nat.lt_trichotomy a b with h | h | h
  · exact ⟨_, _, cmpI_lt h, cmpI_gt h, by simp⟩
  · exact ⟨_, _, cmpI_eq h, cmpI_eq h.symm, by simp⟩
  · exact ⟨_, _, cmpI_gt h, cmpI_lt h, by simp⟩

set_option maxHeartbeats 4000000 in
theorem orders_walk (x : Nat) (va vb : Value) (la lb : List Nat) (w : World) (hx : x < 18446744073709551616) (ra : Rd w (fun _ => True) va la) (rb : Rd w (fun _ => True) vb lb) (ht : Tab w) :
    Calls Tryd.prog 3 #[.int .u64 (x : Int), va, vb] w (LawEnd w) := by
  have HT := Lib.hid ht
  clear ht
  obtain ⟨A, n, c, rfl, hbn, ha⟩ := ra.named
  obtain ⟨a, hva⟩ : ∃ x, x = Num.val la := ⟨_, rfl⟩
  rw [← hva] at ha
  clear hva ra
  obtain ⟨B, m, d, rfl, hbm, hb⟩ := rb.named
  obtain ⟨b, hvb⟩ : ∃ x, x = Num.val lb := ⟨_, rfl⟩
  rw [← hvb] at hb
  clear hvb rb
  by_cases hl : 24 < n ∨ 24 < m
  · go_enter Tryd.func3, Tryd.ntmps3
    go_wp2_with fail
    refine (light_no A B n m c d w hbn hbm hl).mono ?_
    rintro e w' ⟨rfl, rfl⟩
    go_wp2_with fail
    refine (alive_walk w HT.out).mono ?_
    rintro e w1 ⟨rfl, hb1⟩
    go_wp2
    go_ret
    exact ⟨rfl, hb1⟩
  · have hn : n ≤ 24 := by omega
    have hm : m ≤ 24 := by omega
    clear hl
    obtain ⟨o, o', hc, hc', ho⟩ := cmp_cases a b
    have Hc := Lib.hid hc
    have Hc' := Lib.hid hc'
    clear hc hc'
    rcases ho with ⟨rfl, rfl⟩ | ⟨rfl, rfl⟩ | ⟨rfl, rfl⟩
    all_goals
      go_enter Tryd.func3, Tryd.ntmps3
      go_wp2_with fail
      refine (light_yes A B n m c d w hn hm).mono ?_
      rintro e w' ⟨rfl, rfl⟩
      go_wp2_with fail
      refine (of_n x hx).mono ?_
      rintro e w1 ⟨vp, rfl, zp, b⟩
      have B1 := b
      have ha := ha.below b
      have hb := hb.below b
      clear b
      go_wp2_with fail
      refine (rof_n x hx).mono ?_
      rintro e w2 ⟨vq, rfl, zq, b⟩
      have B2 := B1.trans (b.mono B1.size)
      have ha := ha.below b
      have hb := hb.below b
      have zp := zp.below b
      clear B1
      clear b
      go_wp2_with fail
      refine (same_n zp zq (rfl)).mono ?_
      rintro e w3 ⟨rfl, b⟩
      have B3 := B2.trans (b.mono B2.size)
      have ha := ha.below b
      have hb := hb.below b
      have zp := zp.below b
      have zq := zq.below b
      clear B2
      clear b
      go_wp2_with fail
      refine (norm_n ha (by omega)).mono ?_
      rintro e w4 ⟨vr, rfl, zr, b⟩
      have B4 := B3.trans (b.mono B3.size)
      have ha := ha.below b
      have hb := hb.below b
      clear B3
      clear b
      go_wp2_with fail
      refine (rnorm_n ha (by omega)).mono ?_
      rintro e w5 ⟨vt, rfl, zt, b⟩
      have B5 := B4.trans (b.mono B4.size)
      have ha := ha.below b
      have hb := hb.below b
      have zr := zr.below b
      clear B4
      clear b
      have zt := zt.nz
      go_wp2_with fail
      refine (same_n zr zt (rfl)).mono ?_
      rintro e w6 ⟨rfl, b⟩
      have B6 := B5.trans (b.mono B5.size)
      have ha := ha.below b
      have hb := hb.below b
      have zr := zr.below b
      have zt := zt.below b
      clear B5
      clear b
      go_wp2_with fail
      refine (cmp_n ha hb _ Hc.out).mono ?_
      rintro e w7 ⟨rfl, b⟩
      have B7 := B6.trans (b.mono B6.size)
      have ha := ha.below b
      have hb := hb.below b
      clear B6
      clear b
      go_wp2_with fail
      refine (rcmp_n ha hb (by omega) (by omega) _ Hc.out).mono ?_
      rintro e w8 ⟨rfl, b⟩
      have B8 := B7.trans (b.mono B7.size)
      have ha := ha.below b
      have hb := hb.below b
      clear B7
      clear b
      go_wp2_with fail
      refine (cmp_n hb ha _ Hc'.out).mono ?_
      rintro e w9 ⟨rfl, b⟩
      have B9 := B8.trans (b.mono B8.size)
      have ha := ha.below b
      have hb := hb.below b
      clear B8
      clear b
      go_wp2_with fail
      refine (cmp_n ha hb _ Hc.out).mono ?_
      rintro e w10 ⟨rfl, b⟩
      have B10 := B9.trans (b.mono B9.size)
      have ha := ha.below b
      have hb := hb.below b
      clear B9
      clear b
      go_wp2_with fail
      refine (alive_walk _ (HT.out.below B10)).mono ?_
      rintro e w11 ⟨rfl, b⟩
      have B11 := B10.trans (b.mono B10.size)
      go_wp2
      go_ret
      exact ⟨rfl, B11⟩
end Go.Proofs.YtldkiolkhpjhbaaDoor
