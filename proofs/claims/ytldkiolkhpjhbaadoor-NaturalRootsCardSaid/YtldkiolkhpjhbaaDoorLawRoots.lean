/-
  The walk of garmentlaw01.NaturalRoots: it returns true, whatever the numbers.
-/
import Derived.Test.YtldkiolkhpjhbaaDoorRefG
namespace Go.Proofs.YtldkiolkhpjhbaaDoor
open Go.RowKit

theorem sqrt_n {w : World} {va : Value} {a k : Nat} (ha : Nm w va a k) (hk : k ≤ 100) : Calls Tryd.prog 32 #[va] w (SqEnd a k w) := by
  have h1 := ha.lt
  obtain ⟨la, ra, rfl, na⟩ := ha
  refine (sqrt_walk _ la w ra (by omega)).mono fun e w' ⟨v, s, he, hr, h2, h3⟩ => ?_
  have h4 := hr.nz k (sq_small h2 h1)
  exact ⟨v, s, he, h4.1, h2, h3, h4.2⟩
theorem root_one {a s t : Nat} (h1 : s * s ≤ a) (h2 : a < (s + 1) * (s + 1)) (h3 : t * t ≤ a) (h4 : a < (t + 1) * (t + 1)) : s = t := by
  rcases Nat.lt_trichotomy s t with h | h | h
  · have := Nat.mul_le_mul (show s + 1 ≤ t from h) (show s + 1 ≤ t from h); omega
  · exact h
  · have := Nat.mul_le_mul (show t + 1 ≤ s from h) (show t + 1 ≤ s from h); omega

set_option maxHeartbeats 4000000 in
theorem roots_walk (va vb : Value) (la lb : List Nat) (w : World) (ra : Rd w (fun _ => True) va la) (rb : Rd w (fun _ => True) vb lb) (ht : Tab w) :
    Calls Tryd.prog 6 #[va, vb] w (LawEnd w) := by
  have HT := Lib.hid ht
  clear ht
  obtain ⟨A, n, c, rfl, hbn, ha⟩ := ra.named
  obtain ⟨a, hva⟩ : ∃ x, x = Num.val la := ⟨_, rfl⟩
  rw [← hva] at ha
  clear hva ra
  obtain ⟨B, m, d, rfl, hbm, hb⟩ := rb.named
  obtain ⟨b, hvb⟩ : ∃ x, x = Num.val lb := ⟨_, rfl⟩
  rw [← hvb] at hb
  clear hvb rb
  by_cases hl : 24 < n ∨ 24 < m
  · go_enter Tryd.func6, Tryd.ntmps6
    go_wp2_with fail
    refine (light_no A B n m c d w hbn hbm hl).mono ?_
    rintro e w' ⟨rfl, rfl⟩
    go_wp2_with fail
    refine (alive_walk w HT.out).mono ?_
    rintro e w1 ⟨rfl, hb1⟩
    go_wp2
    go_ret
    exact ⟨rfl, hb1⟩
  · have hn : n ≤ 24 := by omega
    have hm : m ≤ 24 := by omega
    clear hl
    go_enter Tryd.func6, Tryd.ntmps6
    go_wp2_with fail
    refine (light_yes A B n m c d w hn hm).mono ?_
    rintro e w' ⟨rfl, rfl⟩
    go_wp2_with fail
    refine (gcd_n ha hb (by omega) (by omega)).mono ?_
    rintro e w1 ⟨vg, rfl, zg, b⟩
    have B1 := b
    have ha := ha.below b
    have hb := hb.below b
    clear b
    go_wp2_with fail
    refine (rgcd_n ha hb (by omega) (by omega)).mono ?_
    rintro e w2 ⟨vu, rfl, zu, b⟩
    have B2 := B1.trans (b.mono B1.size)
    have ha := ha.below b
    have hb := hb.below b
    have zg := zg.below b
    clear B1
    clear b
    go_wp2_with fail
    refine (same_n zg zu (rfl)).mono ?_
    rintro e w3 ⟨rfl, b⟩
    have B3 := B2.trans (b.mono B2.size)
    have ha := ha.below b
    have zg := zg.below b
    have zu := zu.below b
    clear B2
    clear b
    go_wp2_with fail
    refine (sqrt_n ha (by omega)).mono ?_
    rintro e w4 ⟨vs, s, rfl, zs, p1, p2, b⟩
    have B4 := B3.trans (b.mono B3.size)
    have ha := ha.below b
    clear B3
    clear b
    have P1 := Lib.hid p1
    have P2 := Lib.hid p2
    clear p1 p2
    go_wp2_with fail
    refine (rsqrt_n ha (by omega)).mono ?_
    rintro e w5 ⟨vt, t, rfl, zt, p1, p2, b⟩
    have B5 := B4.trans (b.mono B4.size)
    have ha := ha.below b
    have zs := zs.below b
    clear B4
    clear b
    have P3 := Lib.hid p1
    have P4 := Lib.hid p2
    clear p1 p2
    go_wp2_with fail
    refine (same_n zs zt (root_one P1.out P2.out P3.out P4.out)).mono ?_
    rintro e w6 ⟨rfl, b⟩
    have B6 := B5.trans (b.mono B5.size)
    have zs := zs.below b
    have zt := zt.below b
    clear B5
    clear b
    go_wp2_with fail
    refine (alive_walk _ (HT.out.below B6)).mono ?_
    rintro e w7 ⟨rfl, b⟩
    have B7 := B6.trans (b.mono B6.size)
    go_wp2
    go_ret
    exact ⟨rfl, B7⟩
end Go.Proofs.YtldkiolkhpjhbaaDoor
