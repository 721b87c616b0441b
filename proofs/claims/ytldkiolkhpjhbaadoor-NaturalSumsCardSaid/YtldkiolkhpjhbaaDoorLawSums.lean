/-
  The walk of garmentlaw01.NaturalSums: it returns true, whatever the numbers.
-/
import Derived.Test.YtldkiolkhpjhbaaDoorRefN
namespace Go.Proofs.YtldkiolkhpjhbaaDoor
open Go.RowKit


set_option maxHeartbeats 4000000 in
theorem sums_walk (va vb : Value) (la lb : List Nat) (w : World) (ra : Rd w (fun _ => True) va la) (rb : Rd w (fun _ => True) vb lb) (ht : Tab w) :
    Calls Tryd.prog 4 #[va, vb] w (LawEnd w) := by
  have HT := Lib.hid ht
  clear ht
  obtain ⟨A, n, c, rfl, hbn, ha⟩ := ra.named
  obtain ⟨a, hva⟩ : ∃ x, x = Num.val la := ⟨_, rfl⟩
  rw [← hva] at ha
  clear hva ra
  obtain ⟨B, m, d, rfl, hbm, hb⟩ := rb.named
  obtain ⟨b, hvb⟩ : ∃ x, x = Num.val lb := ⟨_, rfl⟩
  rw [← hvb] at hb
  clear hvb rb
  by_cases hl : 24 < n ∨ 24 < m
  · go_enter Tryd.func4, Tryd.ntmps4
    go_wp2_with fail
    refine (light_no A B n m c d w hbn hbm hl).mono ?_
    rintro e w' ⟨rfl, rfl⟩
    go_wp2_with fail
    refine (alive_walk w HT.out).mono ?_
    rintro e w1 ⟨rfl, hb1⟩
    go_wp2
    go_ret
    exact ⟨rfl, hb1⟩
  · have hn : n ≤ 24 := by omega
    have hm : m ≤ 24 := by omega
    clear hl
    by_cases hlt : a < b
    · go_enter Tryd.func4, Tryd.ntmps4
      go_wp2_with fail
      refine (light_yes A B n m c d w hn hm).mono ?_
      rintro e w' ⟨rfl, rfl⟩
      go_wp2_with fail
      refine (sub_n0 ha hb hlt).mono ?_
      rintro e w1 ⟨rfl, b⟩
      have B1 := b
      have ha := ha.below b
      have hb := hb.below b
      clear b
      go_wp2_with fail
      refine (rsub_n0 ha hb (by omega) (by omega) hlt).mono ?_
      rintro e w2 ⟨rfl, b⟩
      have B2 := B1.trans (b.mono B1.size)
      have ha := ha.below b
      have hb := hb.below b
      clear B1
      clear b
      go_wp2_with fail
      refine (add_n ha hb (by omega) (by omega)).mono ?_
      rintro e w3 ⟨vs, rfl, zs, b⟩
      have B3 := B2.trans (b.mono B2.size)
      have ha := ha.below b
      have hb := hb.below b
      clear B2
      clear b
      go_wp2_with fail
      refine (radd_n ha hb (by omega) (by omega)).mono ?_
      rintro e w4 ⟨vt, rfl, zt, b⟩
      have B4 := B3.trans (b.mono B3.size)
      have ha := ha.below b
      have hb := hb.below b
      have zs := zs.below b
      clear B3
      clear b
      have zt := zt.nz
      go_wp2_with fail
      refine (same_n zs zt (rfl)).mono ?_
      rintro e w5 ⟨rfl, b⟩
      have B5 := B4.trans (b.mono B4.size)
      have zs := zs.below b
      have zt := zt.below b
      clear B4
      clear b
      go_wp2_with fail
      refine (same_n (Nz.nil _) (Nz.nil _) (rfl)).mono ?_
      rintro e w6 ⟨rfl, b⟩
      have B6 := B5.trans (b.mono B5.size)
      clear B5
      clear b
      go_wp2_with fail
      refine (alive_walk _ (HT.out.below B6)).mono ?_
      rintro e w7 ⟨rfl, b⟩
      have B7 := B6.trans (b.mono B6.size)
      go_wp2
      go_ret
      exact ⟨rfl, B7⟩
    · have hge : b ≤ a := by omega
      have Hge := Lib.hid hge
      clear hlt hge
      go_enter Tryd.func4, Tryd.ntmps4
      go_wp2_with fail
      refine (light_yes A B n m c d w hn hm).mono ?_
      rintro e w' ⟨rfl, rfl⟩
      go_wp2_with fail
      refine (sub_n ha hb (by omega) Hge.out).mono ?_
      rintro e w1 ⟨vp, rfl, zp, b⟩
      have B1 := b
      have ha := ha.below b
      have hb := hb.below b
      clear b
      go_wp2_with fail
      refine (rsub_n ha hb (by omega) (by omega) Hge.out).mono ?_
      rintro e w2 ⟨vq, rfl, zq, b⟩
      have B2 := B1.trans (b.mono B1.size)
      have ha := ha.below b
      have hb := hb.below b
      have zp := zp.below b
      clear B1
      clear b
      have zq := zq.nz
      go_wp2_with fail
      refine (add_n ha hb (by omega) (by omega)).mono ?_
      rintro e w3 ⟨vs, rfl, zs, b⟩
      have B3 := B2.trans (b.mono B2.size)
      have ha := ha.below b
      have hb := hb.below b
      have zp := zp.below b
      have zq := zq.below b
      clear B2
      clear b
      go_wp2_with fail
      refine (radd_n ha hb (by omega) (by omega)).mono ?_
      rintro e w4 ⟨vt, rfl, zt, b⟩
      have B4 := B3.trans (b.mono B3.size)
      have ha := ha.below b
      have hb := hb.below b
      have zp := zp.below b
      have zq := zq.below b
      have zs := zs.below b
      clear B3
      clear b
      have zt := zt.nz
      go_wp2_with fail
      refine (same_n zs zt (rfl)).mono ?_
      rintro e w5 ⟨rfl, b⟩
      have B5 := B4.trans (b.mono B4.size)
      have zp := zp.below b
      have zq := zq.below b
      have zs := zs.below b
      have zt := zt.below b
      clear B4
      clear b
      go_wp2_with fail
      refine (same_n zp zq (rfl)).mono ?_
      rintro e w6 ⟨rfl, b⟩
      have B6 := B5.trans (b.mono B5.size)
      have zp := zp.below b
      have zq := zq.below b
      clear B5
      clear b
      go_wp2_with fail
      refine (alive_walk _ (HT.out.below B6)).mono ?_
      rintro e w7 ⟨rfl, b⟩
      have B7 := B6.trans (b.mono B6.size)
      go_wp2
      go_ret
      exact ⟨rfl, B7⟩
end Go.Proofs.YtldkiolkhpjhbaaDoor
