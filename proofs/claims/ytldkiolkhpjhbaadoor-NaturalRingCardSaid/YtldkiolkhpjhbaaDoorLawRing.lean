/-
  The walk of garmentlaw01.NaturalRing: it returns true, whatever the numbers.
-/
import Derived.Test.YtldkiolkhpjhbaaDoorLawKit
namespace Go.Proofs.YtldkiolkhpjhbaaDoor
open Go.RowKit

theorem cmpI_ge {a b : Nat} (h : b ≤ a) : 0 ≤ cmpI a b := by
  rcases Nat.lt_or_ge b a with h1 | h1
  · rw [cmpI_gt h1]; omega
  · rw [cmpI_eq (by omega)]; omega
set_option maxHeartbeats 4000000 in
theorem ring_walk (va vb vc : Value) (la lb lc : List Nat) (w : World) (ra : Rd w (fun _ => True) va la) (rb : Rd w (fun _ => True) vb lb) (rc : Rd w (fun _ => True) vc lc) (ht : Tab w) :
    Calls Tryd.prog 8 #[va, vb, vc] w (LawEnd w) := by
  have HT := Lib.hid ht
  clear ht
  obtain ⟨A, n, c, rfl, hbn, ha⟩ := ra.named
  obtain ⟨a, hva⟩ : ∃ x, x = Num.val la := ⟨_, rfl⟩
  rw [← hva] at ha
  clear hva ra
  obtain ⟨B, m, d, rfl, hbm, hb⟩ := rb.named
  obtain ⟨b, hvb⟩ : ∃ x, x = Num.val lb := ⟨_, rfl⟩
  rw [← hvb] at hb
  clear hvb rb
  obtain ⟨C, k, f, rfl, hbk, hx⟩ := rc.named
  obtain ⟨x, hvc⟩ : ∃ x, x = Num.val lc := ⟨_, rfl⟩
  rw [← hvc] at hx
  clear hvc rc
  by_cases hl : 24 < n ∨ 24 < m
  · go_enter Tryd.func8, Tryd.ntmps8
    go_wp2_with fail
    refine (light_no A B n m c d w hbn hbm hl).mono ?_
    rintro e w' ⟨rfl, rfl⟩
    go_wp2_with fail
    refine (alive_walk w HT.out).mono ?_
    rintro e w1 ⟨rfl, hb1⟩
    go_wp2
    go_ret
    exact ⟨rfl, hb1⟩
  · have hn : n ≤ 24 := by omega
    have hm : m ≤ 24 := by omega
    clear hl
    by_cases hk : 24 < k
    · go_enter Tryd.func8, Tryd.ntmps8
      go_wp2_with fail
      refine (light_yes A B n m c d w hn hm).mono ?_
      rintro e w' ⟨rfl, rfl⟩
      go_wp2_with fail
      refine (alive_walk w HT.out).mono ?_
      rintro e w1 ⟨rfl, hb1⟩
      go_wp2
      go_ret
      exact ⟨rfl, hb1⟩
    · have hk8 : k ≤ 24 := by omega
      clear hk
      go_enter Tryd.func8, Tryd.ntmps8
      go_wp2_with fail
      refine (light_yes A B n m c d w hn hm).mono ?_
      rintro e w' ⟨rfl, rfl⟩
      go_wp2_with fail
      refine (add_n ha hb (by omega) (by omega)).mono ?_
      rintro e w1 ⟨vs, rfl, zs, b⟩
      have B1 := b
      have ha := ha.below b
      have hb := hb.below b
      have hx := hx.below b
      clear b
      have hs := zs.nm
      go_wp2_with fail
      refine (mul_n ha hb (by omega) (by omega)).mono ?_
      rintro e w2 ⟨vp, rfl, zp, b⟩
      have B2 := B1.trans (b.mono B1.size)
      have ha := ha.below b
      have hb := hb.below b
      have hx := hx.below b
      have hs := hs.below b
      clear B1
      clear b
      have hp := zp.nm
      go_wp2_with fail
      refine (add_n hb ha (by omega) (by omega)).mono ?_
      rintro e w3 ⟨vu, rfl, zu, b⟩
      have B3 := B2.trans (b.mono B2.size)
      have ha := ha.below b
      have hb := hb.below b
      have hx := hx.below b
      have hs := hs.below b
      have hp := hp.below b
      clear B2
      clear b
      have hu := zu.nm
      go_wp2_with fail
      refine (cmp_n hs hu 0 (cmpI_eq (Nat.add_comm _ _))).mono ?_
      rintro e w4 ⟨rfl, b⟩
      have B4 := B3.trans (b.mono B3.size)
      have ha := ha.below b
      have hb := hb.below b
      have hx := hx.below b
      have hs := hs.below b
      have hp := hp.below b
      have hu := hu.below b
      clear B3
      clear b
      go_wp2_with fail
      refine (mul_n hb ha (by omega) (by omega)).mono ?_
      rintro e w5 ⟨vu1, rfl, zu1, b⟩
      have B5 := B4.trans (b.mono B4.size)
      have ha := ha.below b
      have hb := hb.below b
      have hx := hx.below b
      have hs := hs.below b
      have hp := hp.below b
      clear B4
      clear b
      have hu1 := zu1.nm
      go_wp2_with fail
      refine (cmp_n hp hu1 0 (cmpI_eq (Nat.mul_comm _ _))).mono ?_
      rintro e w6 ⟨rfl, b⟩
      have B6 := B5.trans (b.mono B5.size)
      have ha := ha.below b
      have hb := hb.below b
      have hx := hx.below b
      have hs := hs.below b
      have hp := hp.below b
      have hu1 := hu1.below b
      clear B5
      clear b
      go_wp2_with fail
      refine (add_n hs hx (by omega) (by omega)).mono ?_
      rintro e w7 ⟨vu2, rfl, zu2, b⟩
      have B7 := B6.trans (b.mono B6.size)
      have ha := ha.below b
      have hb := hb.below b
      have hx := hx.below b
      have hs := hs.below b
      have hp := hp.below b
      clear B6
      clear b
      have hu2 := zu2.nm
      go_wp2_with fail
      refine (add_n hb hx (by omega) (by omega)).mono ?_
      rintro e w8 ⟨vu3, rfl, zu3, b⟩
      have B8 := B7.trans (b.mono B7.size)
      have ha := ha.below b
      have hb := hb.below b
      have hx := hx.below b
      have hs := hs.below b
      have hp := hp.below b
      have hu2 := hu2.below b
      clear B7
      clear b
      have hu3 := zu3.nm
      go_wp2_with fail
      refine (add_n ha hu3 (by omega) (by omega)).mono ?_
      rintro e w9 ⟨vu4, rfl, zu4, b⟩
      have B9 := B8.trans (b.mono B8.size)
      have ha := ha.below b
      have hb := hb.below b
      have hx := hx.below b
      have hs := hs.below b
      have hp := hp.below b
      have hu2 := hu2.below b
      have hu3 := hu3.below b
      clear B8
      clear b
      have hu4 := zu4.nm
      go_wp2_with fail
      refine (cmp_n hu2 hu4 0 (cmpI_eq (Nat.add_assoc _ _ _))).mono ?_
      rintro e w10 ⟨rfl, b⟩
      have B10 := B9.trans (b.mono B9.size)
      have ha := ha.below b
      have hb := hb.below b
      have hx := hx.below b
      have hs := hs.below b
      have hp := hp.below b
      have hu2 := hu2.below b
      have hu4 := hu4.below b
      clear B9
      clear b
      go_wp2_with fail
      refine (mul_n hp hx (by omega) (by omega)).mono ?_
      rintro e w11 ⟨vu5, rfl, zu5, b⟩
      have B11 := B10.trans (b.mono B10.size)
      have ha := ha.below b
      have hb := hb.below b
      have hx := hx.below b
      have hs := hs.below b
      have hp := hp.below b
      clear B10
      clear b
      have hu5 := zu5.nm
      go_wp2_with fail
      refine (mul_n hb hx (by omega) (by omega)).mono ?_
      rintro e w12 ⟨vu6, rfl, zu6, b⟩
      have B12 := B11.trans (b.mono B11.size)
      have ha := ha.below b
      have hb := hb.below b
      have hx := hx.below b
      have hs := hs.below b
      have hu5 := hu5.below b
      clear B11
      clear b
      have hu6 := zu6.nm
      go_wp2_with fail
      refine (mul_n ha hu6 (by omega) (by omega)).mono ?_
      rintro e w13 ⟨vu7, rfl, zu7, b⟩
      have B13 := B12.trans (b.mono B12.size)
      have ha := ha.below b
      have hb := hb.below b
      have hx := hx.below b
      have hs := hs.below b
      have hu5 := hu5.below b
      have hu6 := hu6.below b
      clear B12
      clear b
      have hu7 := zu7.nm
      go_wp2_with fail
      refine (cmp_n hu5 hu7 0 (cmpI_eq (Nat.mul_assoc _ _ _))).mono ?_
      rintro e w14 ⟨rfl, b⟩
      have B14 := B13.trans (b.mono B13.size)
      have ha := ha.below b
      have hb := hb.below b
      have hx := hx.below b
      have hs := hs.below b
      have hu5 := hu5.below b
      have hu7 := hu7.below b
      clear B13
      clear b
      go_wp2_with fail
      refine (mul_n hs hx (by omega) (by omega)).mono ?_
      rintro e w15 ⟨vu8, rfl, zu8, b⟩
      have B15 := B14.trans (b.mono B14.size)
      have ha := ha.below b
      have hb := hb.below b
      have hx := hx.below b
      have hs := hs.below b
      clear B14
      clear b
      have hu8 := zu8.nm
      go_wp2_with fail
      refine (mul_n ha hx (by omega) (by omega)).mono ?_
      rintro e w16 ⟨vu9, rfl, zu9, b⟩
      have B16 := B15.trans (b.mono B15.size)
      have ha := ha.below b
      have hb := hb.below b
      have hx := hx.below b
      have hs := hs.below b
      have hu8 := hu8.below b
      clear B15
      clear b
      have hu9 := zu9.nm
      go_wp2_with fail
      refine (mul_n hb hx (by omega) (by omega)).mono ?_
      rintro e w17 ⟨vu10, rfl, zu10, b⟩
      have B17 := B16.trans (b.mono B16.size)
      have ha := ha.below b
      have hb := hb.below b
      have hx := hx.below b
      have hs := hs.below b
      have hu8 := hu8.below b
      have hu9 := hu9.below b
      clear B16
      clear b
      have hu10 := zu10.nm
      go_wp2_with fail
      refine (add_n hu9 hu10 (by omega) (by omega)).mono ?_
      rintro e w18 ⟨vu11, rfl, zu11, b⟩
      have B18 := B17.trans (b.mono B17.size)
      have ha := ha.below b
      have hb := hb.below b
      have hs := hs.below b
      have hu8 := hu8.below b
      have hu9 := hu9.below b
      have hu10 := hu10.below b
      clear B17
      clear b
      have hu11 := zu11.nm
      go_wp2_with fail
      refine (cmp_n hu8 hu11 0 (cmpI_eq (Nat.add_mul _ _ _))).mono ?_
      rintro e w19 ⟨rfl, b⟩
      have B19 := B18.trans (b.mono B18.size)
      have ha := ha.below b
      have hb := hb.below b
      have hs := hs.below b
      have hu8 := hu8.below b
      have hu11 := hu11.below b
      clear B18
      clear b
      go_wp2_with fail
      refine (sub_n hs hb (by omega) (Nat.le_add_left _ _)).mono ?_
      rintro e w20 ⟨vback, rfl, zback, b⟩
      have B20 := B19.trans (b.mono B19.size)
      have ha := ha.below b
      have hb := hb.below b
      have hs := hs.below b
      clear B19
      clear b
      have hback := zback.nm
      go_wp2_with fail
      refine (cmp_n hback ha 0 (cmpI_eq (Nat.add_sub_cancel _ _))).mono ?_
      rintro e w21 ⟨rfl, b⟩
      have B21 := B20.trans (b.mono B20.size)
      have ha := ha.below b
      have hs := hs.below b
      have hback := hback.below b
      clear B20
      clear b
      obtain ⟨ci, hci0, hci⟩ : ∃ ci : Int, 0 ≤ ci ∧ cmpI (a + b) a = ci := ⟨_, cmpI_ge (Nat.le_add_right _ _), rfl⟩
      go_wp2_with fail
      refine (cmp_n hs ha ci (hci)).mono ?_
      rintro e w22 ⟨rfl, b⟩
      have B22 := B21.trans (b.mono B21.size)
      have ha := ha.below b
      have hs := hs.below b
      clear B21
      clear b
      clear hci
      go_wp2_with fail
      refine (alive_walk _ (HT.out.below B22)).mono ?_
      rintro e w23 ⟨rfl, b⟩
      have B23 := B22.trans (b.mono B22.size)
      go_wp2
      go_ret
      exact ⟨rfl, B23⟩
end Go.Proofs.YtldkiolkhpjhbaaDoor
