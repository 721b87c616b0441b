/-
  The walk of garmentlaw01.NaturalProducts: it returns true, whatever the numbers.
-/
import Derived.Test.YtldkiolkhpjhbaaDoorRefF
namespace Go.Proofs.YtldkiolkhpjhbaaDoor
open Go.RowKit


set_option maxHeartbeats 4000000 in
theorem products_walk (va vb : Value) (la lb : List Nat) (w : World) (ra : Rd w (fun _ => True) va la) (rb : Rd w (fun _ => True) vb lb) (ht : Tab w) :
    Calls Tryd.prog 5 #[va, vb] w (LawEnd w) := by
  have HT := Lib.hid ht
  clear ht
  obtain ⟨A, n, c, rfl, hbn, ha⟩ := ra.named
  obtain ⟨a, hva⟩ : ∃ x, x = Num.val la := ⟨_, rfl⟩
  rw [← hva] at ha
  clear hva ra
  obtain ⟨B, m, d, rfl, hbm, hb⟩ := rb.named
  obtain ⟨b, hvb⟩ : ∃ x, x = Num.val lb := ⟨_, rfl⟩
  rw [← hvb] at hb
  clear hvb rb
  by_cases hl : 24 < n ∨ 24 < m
  · go_enter Tryd.func5, Tryd.ntmps5
    go_wp2_with fail
    refine (light_no A B n m c d w hbn hbm hl).mono ?_
    rintro e w' ⟨rfl, rfl⟩
    go_wp2_with fail
    refine (alive_walk w HT.out).mono ?_
    rintro e w1 ⟨rfl, hb1⟩
    go_wp2
    go_ret
    exact ⟨rfl, hb1⟩
  · have hn : n ≤ 24 := by omega
    have hm : m ≤ 24 := by omega
    clear hl
    by_cases h0 : b = 0
    · go_enter Tryd.func5, Tryd.ntmps5
      go_wp2_with fail
      refine (light_yes A B n m c d w hn hm).mono ?_
      rintro e w' ⟨rfl, rfl⟩
      go_wp2_with fail
      refine (div_n0b ha hb h0).mono ?_
      rintro e w1 ⟨rfl, b⟩
      have B1 := b
      have ha := ha.below b
      have hb := hb.below b
      clear b
      go_wp2_with fail
      refine (rdiv_n0 ha hb (by omega) h0).mono ?_
      rintro e w2 ⟨rfl, b⟩
      have B2 := B1.trans (b.mono B1.size)
      have ha := ha.below b
      have hb := hb.below b
      clear B1
      clear b
      go_wp2_with fail
      refine (mul_n ha hb (by omega) (by omega)).mono ?_
      rintro e w3 ⟨vx, rfl, zx, b⟩
      have B3 := B2.trans (b.mono B2.size)
      have ha := ha.below b
      have hb := hb.below b
      clear B2
      clear b
      go_wp2_with fail
      refine (rmul_n ha hb (by omega) (by omega)).mono ?_
      rintro e w4 ⟨vy, rfl, zy, b⟩
      have B4 := B3.trans (b.mono B3.size)
      have ha := ha.below b
      have hb := hb.below b
      have zx := zx.below b
      clear B3
      clear b
      have zy := zy.nz
      go_wp2_with fail
      refine (same_n zx zy (rfl)).mono ?_
      rintro e w5 ⟨rfl, b⟩
      have B5 := B4.trans (b.mono B4.size)
      have zx := zx.below b
      have zy := zy.below b
      clear B4
      clear b
      go_wp2_with fail
      refine (same_n (Nz.nil _) (Nz.nil _) (rfl)).mono ?_
      rintro e w6 ⟨rfl, b⟩
      have B6 := B5.trans (b.mono B5.size)
      clear B5
      clear b
      go_wp2_with fail
      refine (same_n (Nz.nil _) (Nz.nil _) (rfl)).mono ?_
      rintro e w7 ⟨rfl, b⟩
      have B7 := B6.trans (b.mono B6.size)
      clear B6
      clear b
      go_wp2_with fail
      refine (alive_walk _ (HT.out.below B7)).mono ?_
      rintro e w8 ⟨rfl, b⟩
      have B8 := B7.trans (b.mono B7.size)
      go_wp2
      go_ret
      exact ⟨rfl, B8⟩
    · have hpos : 0 < b := by omega
      have Hpos := Lib.hid hpos
      clear h0 hpos
      go_enter Tryd.func5, Tryd.ntmps5
      go_wp2_with fail
      refine (light_yes A B n m c d w hn hm).mono ?_
      rintro e w' ⟨rfl, rfl⟩
      go_wp2_with fail
      refine (div_n ha hb (by omega) Hpos.out).mono ?_
      rintro e w1 ⟨vp, vq, rfl, zp, zq, b⟩
      have B1 := b
      have ha := ha.below b
      have hb := hb.below b
      clear b
      go_wp2_with fail
      refine (rdiv_n ha hb (by omega) (by omega) Hpos.out).mono ?_
      rintro e w2 ⟨vr, vt, rfl, zr, zt, b⟩
      have B2 := B1.trans (b.mono B1.size)
      have ha := ha.below b
      have hb := hb.below b
      have zp := zp.below b
      have zq := zq.below b
      clear B1
      clear b
      go_wp2_with fail
      refine (mul_n ha hb (by omega) (by omega)).mono ?_
      rintro e w3 ⟨vx, rfl, zx, b⟩
      have B3 := B2.trans (b.mono B2.size)
      have ha := ha.below b
      have hb := hb.below b
      have zp := zp.below b
      have zq := zq.below b
      have zr := zr.below b
      have zt := zt.below b
      clear B2
      clear b
      go_wp2_with fail
      refine (rmul_n ha hb (by omega) (by omega)).mono ?_
      rintro e w4 ⟨vy, rfl, zy, b⟩
      have B4 := B3.trans (b.mono B3.size)
      have ha := ha.below b
      have hb := hb.below b
      have zp := zp.below b
      have zq := zq.below b
      have zr := zr.below b
      have zt := zt.below b
      have zx := zx.below b
      clear B3
      clear b
      have zy := zy.nz
      go_wp2_with fail
      refine (same_n zx zy (rfl)).mono ?_
      rintro e w5 ⟨rfl, b⟩
      have B5 := B4.trans (b.mono B4.size)
      have zp := zp.below b
      have zq := zq.below b
      have zr := zr.below b
      have zt := zt.below b
      have zx := zx.below b
      have zy := zy.below b
      clear B4
      clear b
      go_wp2_with fail
      refine (same_n zp zr (rfl)).mono ?_
      rintro e w6 ⟨rfl, b⟩
      have B6 := B5.trans (b.mono B5.size)
      have zp := zp.below b
      have zq := zq.below b
      have zr := zr.below b
      have zt := zt.below b
      clear B5
      clear b
      go_wp2_with fail
      refine (same_n zq zt (rfl)).mono ?_
      rintro e w7 ⟨rfl, b⟩
      have B7 := B6.trans (b.mono B6.size)
      have zq := zq.below b
      have zt := zt.below b
      clear B6
      clear b
      go_wp2_with fail
      refine (alive_walk _ (HT.out.below B7)).mono ?_
      rintro e w8 ⟨rfl, b⟩
      have B8 := B7.trans (b.mono B7.size)
      go_wp2
      go_ret
      exact ⟨rfl, B8⟩
end Go.Proofs.YtldkiolkhpjhbaaDoor
