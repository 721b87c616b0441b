/-
  The walk of garmentlaw01.NaturalSquares: it returns true, whatever the number.
-/
import Derived.Test.YtldkiolkhpjhbaaDoorAlive
namespace Go.Proofs.YtldkiolkhpjhbaaDoor
open Go.RowKit

/-- A law's call returns true and writes nothing that was there. -/
def LawEnd (w : World) (e : Ending) (w' : World) : Prop := e = .returned (.bool true) ∧ Below w.heap.size w w'
theorem Rd.addr {w : World} {S : Nat → Prop} {A : Option Addr} {n c : Nat} {l : List Nat} (h : Rd w S (.slice A n c) l) : l.length = n := by
  obtain ⟨A', c', e, _⟩ := h
  injection e with _ e
  exact e.symm
/-- The root of a square is its side. -/
theorem root_sq (s a : Nat) (h1 : s * s ≤ a * a) (h2 : a * a < (s + 1) * (s + 1)) : s = a := by
  rcases Nat.lt_or_ge s a with h | h
  · have := Nat.mul_le_mul (show s + 1 ≤ a from h) (show s + 1 ≤ a from h); omega
  · rcases Nat.lt_or_ge a s with h3 | h3
    · have := Nat.mul_le_mul (show a + 1 ≤ s from h3) (show a + 1 ≤ s from h3)
      have e : (a + 1) * (a + 1) = a * a + 2 * a + 1 := by rw [Nat.add_mul, Nat.mul_add, Nat.mul_one, Nat.one_mul]; omega
      omega
    · omega
theorem len_of {l : List Nat} {k : Nat} {a : Nat} (hn : Num.Nrm l) (hv : Num.val l = a) (h : a < Num.K ^ k) : l.length ≤ k := hn.len_le (by rw [hv]; exact h)
theorem sq_lt {a k : Nat} (h : a < Num.K ^ k) : a * a < Num.K ^ (k + k) := by
  rw [Nat.pow_add]
  have := Nat.mul_le_mul (Nat.le_of_lt h) (Nat.le_of_lt h)
  have h2 := Nat.mul_lt_mul_of_lt_of_le h (Nat.le_of_lt h) (by omega)
  exact h2

set_option maxHeartbeats 4000000 in
theorem squares_walk (va : Value) (la : List Nat) (w : World) (ha : Rd w (fun _ => True) va la) (ht : Tab w) :
    Calls Tryd.prog 11 #[va] w (LawEnd w) := by
  have hva := ha.len
  obtain ⟨A, c, rfl⟩ := hva
  obtain ⟨n, hn⟩ : ∃ n, n = la.length := ⟨_, rfl⟩
  rw [← hn] at ha ⊢
  have Hn := Lib.hid hn
  have HT := Lib.hid ht
  have HLa := Lib.hid ha.lim
  have hcb : n ≤ 9223372036854775807 := by
    obtain ⟨A', c', e, h1, h2, _⟩ := ha
    omega
  clear hn ht
  by_cases hbig : 24 < n
  · go_enter Tryd.func11, Tryd.ntmps11
    go_wp2_with fail
    refine (alive_walk w HT.out).mono ?_
    rintro e w1 ⟨rfl, hb1⟩
    go_wp2
    go_ret
    exact ⟨rfl, hb1⟩
  · have hsm : n ≤ 24 := by omega
    obtain ⟨a, hav⟩ : ∃ a, a = Num.val la := ⟨_, rfl⟩
    have haK : a < Num.K ^ 24 := by
      rw [hav]
      exact Nat.lt_of_lt_of_le (Num.val_lt la HLa.out) (Nat.pow_le_pow_right Num.K_pos (by have := Hn.out; omega))
    have HaK := Lib.hid haK
    have Hav := Lib.hid hav
    clear hav haK hbig
    go_enter Tryd.func11, Tryd.ntmps11
    go_wp2_with fail
    refine (sqrt_walk _ la w ha (by have := Hn.out; omega)).mono ?_
    rintro e w1 ⟨v1, s, rfl, ⟨l1, hr1, hn1, hv1, hb1⟩, hs1, hs2⟩
    rw [← Hav.out] at hs1 hs2
    have Hs1 := Lib.hid hs1
    have Hs2 := Lib.hid hs2
    have Hv1 := Lib.hid hv1
    have ha1 := ha.below hb1
    have B1 := hb1
    have hsK : s < Num.K ^ 24 := by
      rcases Nat.eq_zero_or_pos s with h | h
      · rw [h]; exact Num.pow_pos' 24
      · have := Nat.mul_le_mul_left s h
        have h3 := HaK.out
        rw [Nat.mul_one] at this
        exact Nat.lt_of_le_of_lt (Nat.le_trans this hs1) h3
    have hl1 : l1.length ≤ 24 := len_of hn1 hv1 hsK
    clear hs1 hs2 hv1 hn1 hb1 hsK
    go_wp2_with fail
    refine (add_walk _ _ l1 [1] _ (hr1.below (below_alloc _ _)) (Rd.lit _ [1] _ _ 1 rfl rfl (by simp) (lim1 _ (by omega)) (by omega)) (by omega) (by simp)).mono ?_
    rintro e w2 ⟨v2, rfl, l2, hr2, hn2, hv2, b2⟩
    have b2 := b_alloc b2
    have hv2' : Num.val l2 = s + 1 := by rw [hv2, Hv1.out]; simp [Num.val]
    have Hv2 := Lib.hid hv2'
    have B2 := B1.trans (b2.mono B1.size)
    have hr1 := hr1.below b2
    have ha2 := ha1.below b2
    have hl2 : l2.length ≤ 25 := by
      refine len_of hn2 hv2' ?_
      have h1 := Num.val_lt l1 hr1.lim
      rw [Hv1.out] at h1
      have h2 : Num.K ^ l1.length ≤ Num.K ^ 24 := Nat.pow_le_pow_right Num.K_pos hl1
      have h3 : Num.K ^ 24 + 1 ≤ Num.K ^ 25 := Nat.pow_lt_pow_right (by decide) (by omega)
      omega
    clear b2 B1 hv2 hv2' hn2 ha1
    go_wp2_with fail
    refine (mul_walk _ _ l1 l1 _ hr1 hr1 (by omega) (by omega)).mono ?_
    rintro e w3 ⟨v3, rfl, l3, hr3, hn3, hv3, b3⟩
    have Hv3 : Hid (Num.val l3 = s * s) := by show _ = _; rw [hv3, Hv1.out]
    have B3 := B2.trans (b3.mono B2.size)
    have hr2 := hr2.below b3
    have ha3 := ha2.below b3
    clear b3 B2 hv3 hn3 ha2
    go_wp2_with fail
    obtain ⟨ci, hci0, hci⟩ : ∃ ci : Int, ci ≤ 0 ∧ cmpI (Num.val l3) (Num.val la) = ci := by
      rw [Hv3.out, ← Hav.out]
      rcases Nat.lt_or_ge (s * s) a with h | h
      · exact ⟨_, by rw [cmpI_lt h]; omega, rfl⟩
      · exact ⟨_, by rw [cmpI_eq (by have := Hs1.out; omega)]; omega, rfl⟩
    refine (cmp_b _ _ l3 la _ hr3 ha3 ci hci).mono ?_
    rintro e w4 ⟨rfl, b4⟩
    have B4 := B3.trans (b4.mono B3.size)
    have hr2 := hr2.below b4
    have ha4 := ha3.below b4
    clear b4 B3 hci ha3 hr3 hr1
    go_wp2_with fail
    refine (mul_walk _ _ l2 l2 _ hr2 hr2 (by omega) (by omega)).mono ?_
    rintro e w5 ⟨v5, rfl, l5, hr5, hn5, hv5, b5⟩
    have Hv5 : Hid (Num.val l5 = (s + 1) * (s + 1)) := by show _ = _; rw [hv5, Hv2.out]
    have B5 := B4.trans (b5.mono B4.size)
    have ha5 := ha4.below b5
    clear b5 B4 hv5 hn5 ha4 hr2
    go_wp2_with fail
    refine (cmp_b _ _ l5 la _ hr5 ha5 1 (by rw [cmpI_gt]; rw [Hv5.out, ← Hav.out]; exact Hs2.out)).mono ?_
    rintro e w6 ⟨rfl, b6⟩
    have B6 := B5.trans (b6.mono B5.size)
    have ha6 := ha5.below b6
    clear b6 B5 ha5 hr5
    go_wp2_with fail
    refine (mul_walk _ _ la la _ ha6 ha6 (by have := Hn.out; omega) (by have := Hn.out; omega)).mono ?_
    rintro e w7 ⟨v7, rfl, l7, hr7, hn7, hv7, b7⟩
    have Hv7 : Hid (Num.val l7 = a * a) := by show _ = _; rw [hv7, Hav.out]
    have B7 := B6.trans (b7.mono B6.size)
    have ha7 := ha6.below b7
    have hl7 : l7.length ≤ 48 := len_of hn7 Hv7.out (sq_lt HaK.out)
    clear b7 B6 hv7 hn7 ha6
    go_wp2_with fail
    refine (sqrt_walk _ l7 _ hr7 (by omega)).mono ?_
    rintro e w8 ⟨v8, s8, rfl, ⟨l8, hr8, hn8, hv8, b8⟩, hs81, hs82⟩
    have Hv8 : Hid (Num.val l8 = a) := by show _ = _; rw [hv8]; rw [Hv7.out] at hs81 hs82; exact root_sq _ _ hs81 hs82
    have B8 := B7.trans (b8.mono B7.size)
    have ha8 := ha7.below b8
    clear b8 B7 hv8 hn8 ha7 hs81 hs82
    go_wp2_with fail
    refine (cmp_b _ _ l8 la _ hr8 ha8 0 (by rw [cmpI_eq]; rw [Hv8.out, ← Hav.out])).mono ?_
    rintro e w9 ⟨rfl, b9⟩
    have B9 := B8.trans (b9.mono B8.size)
    clear b9 B8 ha8 hr8
    go_wp2_with fail
    refine (alive_walk w9 (HT.out.below B9)).mono ?_
    rintro e w10 ⟨rfl, b10⟩
    have B10 := B9.trans (b10.mono B9.size)
    go_wp2
    go_ret
    exact ⟨rfl, B10⟩
end Go.Proofs.YtldkiolkhpjhbaaDoor
