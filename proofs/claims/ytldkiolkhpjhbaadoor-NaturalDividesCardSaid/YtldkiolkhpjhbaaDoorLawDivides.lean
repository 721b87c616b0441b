/-
  The walk of garmentlaw01.NaturalDivides: it returns true, whatever the numbers.
-/
import Derived.Test.YtldkiolkhpjhbaaDoorLawKit
namespace Go.Proofs.YtldkiolkhpjhbaaDoor
open Go.RowKit


set_option maxHeartbeats 4000000 in
theorem divides_walk (va vb : Value) (la lb : List Nat) (w : World) (ra : Rd w (fun _ => True) va la) (rb : Rd w (fun _ => True) vb lb) (ht : Tab w) :
    Calls Tryd.prog 9 #[va, vb] w (LawEnd w) := by
  have HT := Lib.hid ht
  clear ht
  obtain ⟨A, n, c, rfl, hbn, ha⟩ := ra.named
  obtain ⟨a, hva⟩ : ∃ x, x = Num.val la := ⟨_, rfl⟩
  rw [← hva] at ha
  clear hva ra
  obtain ⟨B, m, d, rfl, hbm, hb⟩ := rb.named
  obtain ⟨b, hvb⟩ : ∃ x, x = Num.val lb := ⟨_, rfl⟩
  rw [← hvb] at hb
  clear hvb rb
  by_cases hl : 24 < n ∨ 24 < m
  · go_enter Tryd.func9, Tryd.ntmps9
    go_wp2_with fail
    refine (light_no A B n m c d w hbn hbm hl).mono ?_
    rintro e w' ⟨rfl, rfl⟩
    go_wp2_with fail
    refine (alive_walk w HT.out).mono ?_
    rintro e w1 ⟨rfl, hb1⟩
    go_wp2
    go_ret
    exact ⟨rfl, hb1⟩
  · have hn : n ≤ 24 := by omega
    have hm : m ≤ 24 := by omega
    clear hl
    by_cases h0 : b = 0
    · go_enter Tryd.func9, Tryd.ntmps9
      go_wp2_with fail
      refine (light_yes A B n m c d w hn hm).mono ?_
      rintro e w' ⟨rfl, rfl⟩
      go_wp2_with fail
      refine (div_n0 ha hb h0).mono ?_
      rintro e w' ⟨rfl, rfl⟩
      go_wp2_with fail
      refine (cmp_n hb (Nm.nil _) 0 (cmpI_eq h0)).mono ?_
      rintro e w1 ⟨rfl, b⟩
      have B1 := b
      clear b
      go_wp2_with fail
      refine (alive_walk _ (HT.out.below B1)).mono ?_
      rintro e w2 ⟨rfl, b⟩
      have B2 := B1.trans (b.mono B1.size)
      go_wp2
      go_ret
      exact ⟨rfl, B2⟩
    · have hpos : 0 < b := by omega
      clear h0
      go_enter Tryd.func9, Tryd.ntmps9
      go_wp2_with fail
      refine (light_yes A B n m c d w hn hm).mono ?_
      rintro e w' ⟨rfl, rfl⟩
      go_wp2_with fail
      refine (div_n ha hb (by omega) hpos).mono ?_
      rintro e w1 ⟨vq, vr, rfl, zq, zr, b⟩
      have B1 := b
      have ha := ha.below b
      have hb := hb.below b
      clear b
      have hq := zq.nm
      have hr := zr.nm
      go_wp2_with fail
      refine (cmp_n hr hb (-1) (cmpI_lt (Nat.mod_lt _ hpos))).mono ?_
      rintro e w2 ⟨rfl, b⟩
      have B2 := B1.trans (b.mono B1.size)
      have ha := ha.below b
      have hb := hb.below b
      have hq := hq.below b
      have hr := hr.below b
      clear B1
      clear b
      go_wp2_with fail
      refine (mul_n hq hb (by omega) (by omega)).mono ?_
      rintro e w3 ⟨vp, rfl, zp, b⟩
      have B3 := B2.trans (b.mono B2.size)
      have ha := ha.below b
      have hb := hb.below b
      have hq := hq.below b
      have hr := hr.below b
      clear B2
      clear b
      have hp := zp.nm
      go_wp2_with fail
      refine (add_n hp hr (by omega) (by omega)).mono ?_
      rintro e w4 ⟨vs, rfl, zs, b⟩
      have B4 := B3.trans (b.mono B3.size)
      have ha := ha.below b
      have hr := hr.below b
      have hp := hp.below b
      clear B3
      clear b
      have hs := zs.nm
      go_wp2_with fail
      refine (cmp_n hs ha 0 (cmpI_eq (Nat.div_add_mod' a b))).mono ?_
      rintro e w5 ⟨rfl, b⟩
      have B5 := B4.trans (b.mono B4.size)
      have ha := ha.below b
      have hr := hr.below b
      have hp := hp.below b
      have hs := hs.below b
      clear B4
      clear b
      go_wp2_with fail
      refine (alive_walk _ (HT.out.below B5)).mono ?_
      rintro e w6 ⟨rfl, b⟩
      have B6 := B5.trans (b.mono B5.size)
      go_wp2
      go_ret
      exact ⟨rfl, B6⟩
end Go.Proofs.YtldkiolkhpjhbaaDoor
