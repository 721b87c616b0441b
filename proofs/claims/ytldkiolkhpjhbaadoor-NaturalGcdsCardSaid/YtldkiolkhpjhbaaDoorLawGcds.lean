/-
  The walk of garmentlaw01.NaturalGcds: it returns true, whatever the numbers.
-/
import Derived.Test.YtldkiolkhpjhbaaDoorLawKit
namespace Go.Proofs.YtldkiolkhpjhbaaDoor
open Go.RowKit

theorem gcd_div_one {a b : Nat} (h : 0 < Nat.gcd a b) : Nat.gcd (a / Nat.gcd a b) (b / Nat.gcd a b) = 1 := by
  have h1 := Nat.gcd_mul_right (a / Nat.gcd a b) (Nat.gcd a b) (b / Nat.gcd a b)
  rw [Nat.div_mul_cancel (Nat.gcd_dvd_left a b), Nat.div_mul_cancel (Nat.gcd_dvd_right a b)] at h1
  exact Nat.eq_of_mul_eq_mul_right h (by rw [Nat.one_mul]; exact h1.symm)

set_option maxHeartbeats 4000000 in
theorem gcds_walk (va vb vc : Value) (la lb lc : List Nat) (w : World) (ra : Rd w (fun _ => True) va la) (rb : Rd w (fun _ => True) vb lb) (rc : Rd w (fun _ => True) vc lc) (ht : Tab w) :
    Calls Tryd.prog 10 #[va, vb, vc] w (LawEnd w) := by
  have HT := Lib.hid ht
  clear ht
  obtain ⟨A, n, c, rfl, hbn, ha⟩ := ra.named
  obtain ⟨a, hva⟩ : ∃ x, x = Num.val la := ⟨_, rfl⟩
  rw [← hva] at ha
  clear hva ra
  obtain ⟨B, m, d, rfl, hbm, hb⟩ := rb.named
  obtain ⟨b, hvb⟩ : ∃ x, x = Num.val lb := ⟨_, rfl⟩
  rw [← hvb] at hb
  clear hvb rb
  obtain ⟨C, k, f, rfl, hbk, hx⟩ := rc.named
  obtain ⟨x, hvc⟩ : ∃ x, x = Num.val lc := ⟨_, rfl⟩
  rw [← hvc] at hx
  clear hvc rc
  by_cases hl : 24 < n ∨ 24 < m
  · go_enter Tryd.func10, Tryd.ntmps10
    go_wp2_with fail
    refine (light_no A B n m c d w hbn hbm hl).mono ?_
    rintro e w' ⟨rfl, rfl⟩
    go_wp2_with fail
    refine (alive_walk w HT.out).mono ?_
    rintro e w1 ⟨rfl, hb1⟩
    go_wp2
    go_ret
    exact ⟨rfl, hb1⟩
  · have hn : n ≤ 24 := by omega
    have hm : m ≤ 24 := by omega
    clear hl
    by_cases hk : 8 < k
    · go_enter Tryd.func10, Tryd.ntmps10
      go_wp2_with fail
      refine (light_yes A B n m c d w hn hm).mono ?_
      rintro e w' ⟨rfl, rfl⟩
      go_wp2_with fail
      refine (alive_walk w HT.out).mono ?_
      rintro e w1 ⟨rfl, hb1⟩
      go_wp2
      go_ret
      exact ⟨rfl, hb1⟩
    · have hk8 : k ≤ 8 := by omega
      clear hk
      by_cases hg0 : Nat.gcd a b = 0
      · have hab := Nat.gcd_eq_zero_iff.1 hg0
        have Hab := Lib.hid hab
        have Hg0 := Lib.hid hg0
        clear hab hg0
        go_enter Tryd.func10, Tryd.ntmps10
        go_wp2_with fail
        refine (light_yes A B n m c d w hn hm).mono ?_
        rintro e w' ⟨rfl, rfl⟩
        go_wp2_with fail
        refine (gcd_n ha hb (by omega) (by omega)).mono ?_
        rintro e w1 ⟨vg, rfl, zg, b⟩
        have B1 := b
        have ha := ha.below b
        have hb := hb.below b
        have hx := hx.below b
        clear b
        have hg := zg.nm
        go_wp2_with fail
        refine (mul_n ha hx (by omega) (by omega)).mono ?_
        rintro e w2 ⟨vu1, rfl, zu1, b⟩
        have B2 := B1.trans (b.mono B1.size)
        have ha := ha.below b
        have hb := hb.below b
        have hx := hx.below b
        have hg := hg.below b
        clear B1
        clear b
        have hu1 := zu1.nm
        go_wp2_with fail
        refine (mul_n hb hx (by omega) (by omega)).mono ?_
        rintro e w3 ⟨vu2, rfl, zu2, b⟩
        have B3 := B2.trans (b.mono B2.size)
        have ha := ha.below b
        have hb := hb.below b
        have hx := hx.below b
        have hg := hg.below b
        have hu1 := hu1.below b
        clear B2
        clear b
        have hu2 := zu2.nm
        go_wp2_with fail
        refine (gcd_n hu1 hu2 (by omega) (by omega)).mono ?_
        rintro e w4 ⟨vu3, rfl, zu3, b⟩
        have B4 := B3.trans (b.mono B3.size)
        have ha := ha.below b
        have hb := hb.below b
        have hx := hx.below b
        have hg := hg.below b
        have hu1 := hu1.below b
        have hu2 := hu2.below b
        clear B3
        clear b
        have hu3 := zu3.nm
        go_wp2_with fail
        refine (mul_n hg hx (by omega) (by omega)).mono ?_
        rintro e w5 ⟨vu4, rfl, zu4, b⟩
        have B5 := B4.trans (b.mono B4.size)
        have ha := ha.below b
        have hb := hb.below b
        have hx := hx.below b
        have hg := hg.below b
        have hu3 := hu3.below b
        clear B4
        clear b
        have hu4 := zu4.nm
        go_wp2_with fail
        refine (cmp_n hu3 hu4 0 (cmpI_eq (Nat.gcd_mul_right _ _ _))).mono ?_
        rintro e w6 ⟨rfl, b⟩
        have B6 := B5.trans (b.mono B5.size)
        have ha := ha.below b
        have hb := hb.below b
        have hg := hg.below b
        have hu3 := hu3.below b
        have hu4 := hu4.below b
        clear B5
        clear b
        go_wp2_with fail
        refine (cmp_n hg (Nm.nil _) 0 (cmpI_eq Hg0.out)).mono ?_
        rintro e w7 ⟨rfl, b⟩
        have B7 := B6.trans (b.mono B6.size)
        have ha := ha.below b
        have hb := hb.below b
        have hg := hg.below b
        clear B6
        clear b
        go_wp2_with fail
        refine (cmp_n ha (Nm.nil _) 0 (cmpI_eq Hab.out.1)).mono ?_
        rintro e w8 ⟨rfl, b⟩
        have B8 := B7.trans (b.mono B7.size)
        have ha := ha.below b
        have hb := hb.below b
        clear B7
        clear b
        go_wp2_with fail
        refine (cmp_n hb (Nm.nil _) 0 (cmpI_eq Hab.out.2)).mono ?_
        rintro e w9 ⟨rfl, b⟩
        have B9 := B8.trans (b.mono B8.size)
        have ha := ha.below b
        have hb := hb.below b
        clear B8
        clear b
        go_wp2_with fail
        refine (alive_walk _ (HT.out.below B9)).mono ?_
        rintro e w10 ⟨rfl, b⟩
        have B10 := B9.trans (b.mono B9.size)
        go_wp2
        go_ret
        exact ⟨rfl, B10⟩
      · have hgp : 0 < Nat.gcd a b := Nat.pos_of_ne_zero hg0
        have Hgp := Lib.hid hgp
        clear hgp hg0
        go_enter Tryd.func10, Tryd.ntmps10
        go_wp2_with fail
        refine (light_yes A B n m c d w hn hm).mono ?_
        rintro e w' ⟨rfl, rfl⟩
        go_wp2_with fail
        refine (gcd_n ha hb (by omega) (by omega)).mono ?_
        rintro e w1 ⟨vg, rfl, zg, b⟩
        have B1 := b
        have ha := ha.below b
        have hb := hb.below b
        have hx := hx.below b
        clear b
        have hg := zg.nm
        go_wp2_with fail
        refine (mul_n ha hx (by omega) (by omega)).mono ?_
        rintro e w2 ⟨vu1, rfl, zu1, b⟩
        have B2 := B1.trans (b.mono B1.size)
        have ha := ha.below b
        have hb := hb.below b
        have hx := hx.below b
        have hg := hg.below b
        clear B1
        clear b
        have hu1 := zu1.nm
        go_wp2_with fail
        refine (mul_n hb hx (by omega) (by omega)).mono ?_
        rintro e w3 ⟨vu2, rfl, zu2, b⟩
        have B3 := B2.trans (b.mono B2.size)
        have ha := ha.below b
        have hb := hb.below b
        have hx := hx.below b
        have hg := hg.below b
        have hu1 := hu1.below b
        clear B2
        clear b
        have hu2 := zu2.nm
        go_wp2_with fail
        refine (gcd_n hu1 hu2 (by omega) (by omega)).mono ?_
        rintro e w4 ⟨vu3, rfl, zu3, b⟩
        have B4 := B3.trans (b.mono B3.size)
        have ha := ha.below b
        have hb := hb.below b
        have hx := hx.below b
        have hg := hg.below b
        have hu1 := hu1.below b
        have hu2 := hu2.below b
        clear B3
        clear b
        have hu3 := zu3.nm
        go_wp2_with fail
        refine (mul_n hg hx (by omega) (by omega)).mono ?_
        rintro e w5 ⟨vu4, rfl, zu4, b⟩
        have B5 := B4.trans (b.mono B4.size)
        have ha := ha.below b
        have hb := hb.below b
        have hx := hx.below b
        have hg := hg.below b
        have hu3 := hu3.below b
        clear B4
        clear b
        have hu4 := zu4.nm
        go_wp2_with fail
        refine (cmp_n hu3 hu4 0 (cmpI_eq (Nat.gcd_mul_right _ _ _))).mono ?_
        rintro e w6 ⟨rfl, b⟩
        have B6 := B5.trans (b.mono B5.size)
        have ha := ha.below b
        have hb := hb.below b
        have hg := hg.below b
        have hu3 := hu3.below b
        have hu4 := hu4.below b
        clear B5
        clear b
        go_wp2_with fail
        refine (cmp_n hg (Nm.nil _) 1 (cmpI_gt Hgp.out)).mono ?_
        rintro e w7 ⟨rfl, b⟩
        have B7 := B6.trans (b.mono B6.size)
        have ha := ha.below b
        have hb := hb.below b
        have hg := hg.below b
        clear B6
        clear b
        go_wp2_with fail
        refine (div_n ha hg (by omega) Hgp.out).mono ?_
        rintro e w8 ⟨vq, vr, rfl, zq, zr, b⟩
        have B8 := B7.trans (b.mono B7.size)
        have ha := ha.below b
        have hb := hb.below b
        have hg := hg.below b
        clear B7
        clear b
        rw [Nat.mod_eq_zero_of_dvd (Nat.gcd_dvd_left a b)] at zr
        obtain ⟨A1, c1, rfl⟩ := zr.empty
        have hq := zq.nm
        go_wp2_with fail
        refine (div_n hb hg (by omega) Hgp.out).mono ?_
        rintro e w9 ⟨vq2, vr2, rfl, zq2, zr2, b⟩
        have B9 := B8.trans (b.mono B8.size)
        have hb := hb.below b
        have hg := hg.below b
        have hq := hq.below b
        clear B8
        clear b
        rw [Nat.mod_eq_zero_of_dvd (Nat.gcd_dvd_right a b)] at zr2
        obtain ⟨A2, c2, rfl⟩ := zr2.empty
        have hq2 := zq2.nm
        go_wp2_with fail
        refine (gcd_n hq hq2 (by omega) (by omega)).mono ?_
        rintro e w10 ⟨vg1, rfl, zg1, b⟩
        have B10 := B9.trans (b.mono B9.size)
        have hq := hq.below b
        have hq2 := hq2.below b
        clear B9
        clear b
        have hg1 := zg1.nm
        go_wp2_with fail
        refine (cmp_n (hg1.below (below_alloc _ _)) (Nm.one _ _ (by simp)) 0 (cmpI_eq (gcd_div_one Hgp.out))).mono ?_
        rintro e w11 ⟨rfl, b⟩
        have b := b_alloc b
        have B11 := B10.trans (b.mono B10.size)
        have hg1 := hg1.below b
        clear B10
        clear b
        go_wp2_with fail
        refine (alive_walk _ (HT.out.below B11)).mono ?_
        rintro e w12 ⟨rfl, b⟩
        have B12 := B11.trans (b.mono B11.size)
        go_wp2
        go_ret
        exact ⟨rfl, B12⟩
end Go.Proofs.YtldkiolkhpjhbaaDoor
