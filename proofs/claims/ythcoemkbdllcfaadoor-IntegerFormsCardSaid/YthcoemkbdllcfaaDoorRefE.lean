/-
  The walks of garmentref01.Half and Shift.
-/
import Derived.Test.YthcoemkbdllcfaaDoorRefD
namespace Go.Proofs.YthcoemkbdllcfaaDoor
open Go.RowKit

/-- The loop of Half. -/
def HfInv (la : List Nat) (w : World) (k : Nat) (y : Value) (wr : World) : Prop :=
  ∃ l : List Nat, Row wr w.heap.size y l ∧ Num.Lim l ∧ l.length = k ∧ 2 * Num.val l + lm la 0 % 2 = Num.val (la.take k) + Num.K ^ k * (lm la k % 2) ∧ Below w.heap.size w wr
theorem half_num (R P K L x y b d : Nat) (hv : 2 * R + b = L + P * (x % 2)) (hd : 2 * d + x % 2 = x + K * (y % 2)) : 2 * (R + P * d) + b = L + P * x + P * K * (y % 2) := by
  have h := congrArg (P * ·) hd
  simp only [Nat.mul_add, ← Nat.mul_assoc] at h ⊢
  rw [Nat.mul_comm P 2] at h
  omega
set_option maxRecDepth 4000 in
set_option maxHeartbeats 2000000 in
theorem rhalf_n {w : World} {va : Value} {a k : Nat} (ha : Nm w va a k) (hk : k ≤ 1000) : Calls Tryd.prog 71 #[va] w (NsEnd (a / 2) k w) := by
  obtain ⟨i0, hi, hz0, hz1, hz2⟩ := info_parts info_u32
  have hlt := ha.lt
  obtain ⟨la, ra, hva, hla⟩ := ha
  obtain ⟨A, n, c, rfl, Hn, hnc, hc, HLa, hA⟩ := ra.open_
  have hn : n ≤ 1000 := by have := Hn.out; omega
  have HA := Lib.hid hA
  have Hva := Lib.hid hva
  have Hlt := Lib.hid hlt
  clear ra hva hla hA hlt
  go_enter Tryd.func71, Tryd.ntmps71
  go_wp2
  go_loopw [3, 4] (fun y i wr => ∃ q : Nat, q ≤ n ∧ i = .int .i64 q ∧ HfInv la w q y wr) (fun _ i _ => n - (intOf i).toNat)
  case atStart => exact ⟨0, Nat.zero_le _, rfl, [], Row.nil _ _, Num.Lim.nil, rfl, by simp [Num.val], Below.refl _ _⟩
  case round =>
    obtain ⟨q, hq, rfl, l, hrow, hL, hlq, hv, hbl⟩ := hrel
    have HL := Lib.hid hL
    have Hlq := Lib.hid hlq
    have Hv := Lib.hid hv
    have hbs := hbl.size
    clear hL hlq hv
    by_cases hgo : q < n
    · have hxb := lm_lt HLa.out q
      have hyb := lm_lt HLa.out (q + 1)
      obtain ⟨x, hx⟩ : ∃ x, x = lm la q := ⟨_, rfl⟩
      obtain ⟨y, hy⟩ : ∃ y, y = lm la (q + 1) := ⟨_, rfl⟩
      have L1 := Lib.hid (fun w => limb_walk A n c q la w Hn.out (by omega) (by omega) HLa.out)
      have L2 := Lib.hid (fun z hz w => limb_z A n c (q + 1) z la w hz Hn.out (by omega) (by omega) HLa.out)
      rw [← hx] at hxb L1
      rw [← hy] at hyb L2
      have Hx := Lib.hid hx
      have Hy := Lib.hid hy
      have hA1 := HA.out.below' hbl
      have hrow1 : wr.ownsRow w.heap.size 46 1 _ l.length (l.map Lv) := hrow
      have hlen : l.length ≤ 2000 := by have := Hlq.out; omega
      clear hx hy
      go_wp2_with fail
      refine (L1.out _ hA1).mono ?_
      rintro e w' ⟨rfl, rfl⟩
      go_wp2_with fail
      refine (L2.out _ (by omega) _ hA1).mono ?_
      rintro e w' ⟨rfl, rfl⟩
      go_wp2_with (at_builtin; refine wpList_append_u32 rfl (.tmp 11) (.tmp 24) 23 rfl w.heap.size 46 i0 Tryd.underlying23 hi hz0 hz1 hz2 _ l rfl (hrow1.alloc _) _ 1 1 [x / 2 + y % 2 * 2147483648] rfl rfl (fun _ => True) (lit_cel wr (x / 2 + y % 2 * 2147483648) _ (by omega)) (by omega) (by simp; omega) ?_; intro v' w' hrow' hg')
      go_roundw
      case rel =>
        have hg2 := only_trans (World.grownBy_alloc wr _ _) hg'
        refine ⟨q + 1, by omega, by go_num, l ++ [x / 2 + y % 2 * 2147483648], hrow', HL.out.append (lim1 _ (by omega)), by simp; exact Hlq.out, ?_, hbl.grown hg2 hbs (fun b hb => (hrow.lt b hb).1)⟩
        have h1 := Hv.out
        rw [Num.val_snoc, Hlq.out, take_lm la q, ← Hx.out, ← Hy.out, Nat.pow_succ]
        rw [← Hx.out] at h1
        exact half_num _ _ _ _ _ _ _ _ h1 (by rw [Num.K_eq]; omega)
      case measure => simp [intOf] <;> omega
    · obtain rfl : q = n := by omega
      have hrd : Rd wr (fun _ => True) _ l := (hrow.rd HL.out).mono (fun _ _ => trivial)
      go_wp2_with fail
      refine (rnorm_walk _ l wr hrd (by have := Hlq.out; omega)).mono ?_
      rintro e w1 h1
      have h0 := Hv.out
      rw [List.take_of_length_le (by have := Hn.out; omega), lm_out (i := q) (by have := Hn.out; omega), Hva.out] at h0
      have h2 : NsEnd (a / 2) k wr e w1 := by
        have := h1.ns k (by have := Hlt.out; omega)
        rwa [show Num.val l = a / 2 from by omega] at this
      obtain ⟨v, rfl, h3, h4⟩ := h2
      clear h1 h0
      go_wp2
      go_ret
      exact ⟨v, rfl, h3.mono (fun _ h => Nat.le_trans hbs h), hbl.trans (h4.mono hbs)⟩

/-- The loop of Shift. -/
def ShInv (s t n : Nat) (la : List Nat) (w : World) (gk : Nat) (y cy i : Value) (wr : World) : Prop :=
  ∃ (k cr : Nat) (l : List Nat), gk = n + 2 - k ∧ k ≤ n + 1 ∧ i = .int .i64 (k : Int) ∧ cy = .int .u64 (cr : Int) ∧ cr < 2 ^ s ∧ (k = n + 1 → cr = 0) ∧ Row wr w.heap.size y l ∧ Num.Lim l ∧ l.length = t + k ∧
    Num.val l + Num.K ^ (t + k) * cr = Num.K ^ t * (Num.val (la.take k) * 2 ^ s) ∧ Below w.heap.size w wr
theorem shift_num (R P K cr T L x s d c' : Nat) (Q : Nat) (hP : P = T * Q) (hv : R + P * cr = T * (L * s)) (hd : d + K * c' = x * s + cr) : R + P * d + P * K * c' = T * ((L + Q * x) * s) := by
  have h := congrArg (P * ·) hd
  subst hP
  simp only [Nat.mul_add, Nat.add_mul, ← Nat.mul_assoc] at h hv ⊢
  omega
theorem shl_low (x cr s : Nat) (hx : x < 4294967296) (hc : cr < 2 ^ s) (hs : s ≤ 31) : ∃ p : Nat, (x : Int) * 2 ^ s = (p : Int) ∧ p = x * 2 ^ s ∧ p + cr < 9223372036854775808 ∧ (p + cr) / 4294967296 < 2 ^ s := by
  have hp : 2 ^ s ≤ 2147483648 := Nat.le_trans (Nat.pow_le_pow_right (by omega) hs) (by decide)
  have hm := Nat.mul_le_mul_right (2 ^ s) (show x + 1 ≤ 4294967296 by omega)
  rw [Nat.add_mul] at hm
  refine ⟨x * 2 ^ s, by simp, rfl, ?_, ?_⟩
  · omega
  · generalize x * 2 ^ s = u at hm
    generalize 2 ^ s = v at hm hc hp ⊢
    omega

set_option maxRecDepth 4000 in
set_option maxHeartbeats 2000000 in
theorem rshift_n {w : World} {va : Value} {a k : Nat} (d : Nat) (hd : d ≤ 32000) (ha : Nm w va a k) (hk : k ≤ 1000) : Calls Tryd.prog 70 #[va, .int .i64 (d : Int)] w (NsEnd (a * 2 ^ d) (d / 32 + k + 1) w) := by
  obtain ⟨i0, hi, hz0, hz1, hz2⟩ := info_parts info_u32
  have hlt := ha.lt
  obtain ⟨la, ra, hva, hla⟩ := ha
  obtain ⟨A, n, c, rfl, Hn, hnc, hc, HLa, hA⟩ := ra.open_
  have hn : n ≤ 1000 := by have := Hn.out; omega
  obtain ⟨t, ht⟩ : ∃ t, t = d / 32 := ⟨_, rfl⟩
  obtain ⟨s, hs⟩ : ∃ s, s = d % 32 := ⟨_, rfl⟩
  have hs31 : s ≤ 31 := by omega
  have hd' : d = 32 * t + s := by omega
  rw [← ht]
  subst hd'
  have htb : t ≤ 1000 := by omega
  have HA := Lib.hid hA
  have Hva := Lib.hid hva
  have Hlt := Lib.hid hlt
  have hrem : (32 * (t : Int) + (s : Int)) % 32 = (s : Int) := by omega
  clear ra hva hla hA hlt ht hs
  go_enter Tryd.func70, Tryd.ntmps70
  go_wp2_with (at_make; refine wpList_make_u32 _ rfl (.tmp 10) (.tmp 10) 23 rfl 46 i0 Tryd.underlying23 hi hz0 hz1 hz2 .i64 .i64 _ _ t rfl rfl (by omega) (by omega) (by omega) ?_; intro g w1 hg1 hown1 hb1 hs1; have Hg := Lib.hid hg1; clear hg1)
  have hrow1 : Row w1 w.heap.size (.slice (some ⟨g, 0, none⟩) t t) (List.replicate t 0) := by
    have := hown1.row w.heap.size (by have := Hg.out; omega) (by simp; unfold maxLen; omega)
    simpa [Row] using this
  go_loopg [5, 6, 7] (n + 2) (fun gk y cy i wr => ShInv s t n la w gk y cy i wr)
  case atStart => exact ⟨0, 0, List.replicate t 0, rfl, by omega, rfl, rfl, Nat.pow_pos (by omega), fun _ => rfl, hrow1, Num.Lim.replicate _, by simp, by simp [Num.val, Num.val_replicate], hb1⟩
  case round =>
    obtain ⟨q, cr, l, hgk, hq, rfl, rfl, hcr, hlast, hrow, hL, hlq, hv, hbl⟩ := hrel
    have Hgk := Lib.hid hgk
    have Hlast := Lib.hid hlast
    have HL := Lib.hid hL
    have Hlq := Lib.hid hlq
    have Hv := Lib.hid hv
    have hbs := hbl.size
    clear hgk hlast hL hlq hv hrow1 hown1
    by_cases hgo : q ≤ n
    · have hxb := lm_lt HLa.out q
      obtain ⟨x, hx⟩ : ∃ x, x = lm la q := ⟨_, rfl⟩
      have L1 := Lib.hid (fun w => limb_walk A n c q la w Hn.out (by omega) (by omega) HLa.out)
      rw [← hx] at hxb L1
      have Hx := Lib.hid hx
      have hA1 := HA.out.below' hbl
      have hrow2 : wr.ownsRow w.heap.size 46 1 _ l.length (l.map Lv) := hrow
      have hlen : l.length ≤ 3000 := by have := Hlq.out; omega
      obtain ⟨p, hp1, hp2, hp3, hp4⟩ := shl_low x cr s hxb hcr hs31
      have Hp2 := Lib.hid hp2
      have Hp4 := Lib.hid hp4
      have Hcr := Lib.hid hcr
      clear hx hp2 hp4 hcr
      go_wp2_with fail
      refine (L1.out _ hA1).mono ?_
      rintro e w' ⟨rfl, rfl⟩
      go_wp2_with (at_builtin; refine wpList_append_u32 rfl (.tmp 27) (.tmp 31) 23 rfl w.heap.size 46 i0 Tryd.underlying23 hi hz0 hz1 hz2 _ l rfl (hrow2.alloc _) _ 1 1 [(p + cr) % 4294967296] rfl rfl (fun _ => True) (lit_cel wr ((p + cr) % 4294967296) _ (by omega)) (by omega) (by simp; omega) ?_; intro v' w' hrow' hg')
      go_roundg (n + 2 - (q + 1))
      case measure => have := Hgk.out; omega
      case rel =>
        have hg2 := only_trans (World.grownBy_alloc wr _ _) hg'
        refine ⟨q + 1, (p + cr) / 4294967296, l ++ [(p + cr) % 4294967296], rfl, by omega, by go_num, int_u64 (by omega), Hp4.out, ?_, hrow', HL.out.append (lim1 _ (Nat.mod_lt _ (by omega))), by simp; have := Hlq.out; omega, ?_, hbl.grown hg2 hbs (fun b hb => (hrow.lt b hb).1)⟩
        · intro h
          have e1 : x = 0 := by rw [Hx.out]; exact lm_out (by have := Hn.out; omega)
          have e2 := Hp2.out
          rw [e1, Nat.zero_mul] at e2
          have e3 := Hcr.out
          have e4 : 2 ^ s ≤ 2147483648 := Nat.le_trans (Nat.pow_le_pow_right (by omega) hs31) (by decide)
          omega
        · rw [Num.val_snoc, Hlq.out, take_lm la q, ← Hx.out, ← Nat.add_assoc t q 1, Nat.pow_succ]
          exact shift_num _ _ _ _ _ _ _ _ _ _ _ (Nat.pow_add _ _ _) Hv.out (by rw [← Hp2.out]; exact Nat.mod_add_div _ _)
    · have hc0 : cr = 0 := Hlast.out (by omega)
      subst hc0
      have hrd : Rd wr (fun _ => True) _ l := (hrow.rd HL.out).mono (fun _ _ => trivial)
      go_wp2_with fail
      refine (rnorm_walk _ l wr hrd (by have := Hlq.out; omega)).mono ?_
      rintro e w2 h1
      have h0 := Hv.out
      rw [Nat.mul_zero, Nat.add_zero, List.take_of_length_le (by have := Hn.out; omega), Hva.out] at h0
      have e1 : Num.val l = a * 2 ^ (32 * t + s) := by
        rw [h0, K_pow, Nat.pow_add, ← Nat.mul_assoc, Nat.mul_comm (2 ^ (32 * t)) a, Nat.mul_assoc]
      have h2 : NsEnd (a * 2 ^ (32 * t + s)) (t + k + 1) wr e w2 := by
        have := h1.ns (t + k + 1) (by
          rw [h0, Nat.add_assoc, Nat.pow_add, Nat.pow_succ]
          refine Nat.mul_lt_mul_of_pos_left (Nat.mul_lt_mul_of_lt_of_le Hlt.out ?_ (Num.K_pos)) (Num.pow_pos' _)
          exact Nat.le_trans (Nat.pow_le_pow_right (by omega) hs31) (by decide))
        rwa [e1] at this
      obtain ⟨v, rfl, h3, h4⟩ := h2
      clear h1 h0 e1
      go_wp2
      go_ret
      exact ⟨v, rfl, h3.mono (fun _ h => Nat.le_trans hbs h), hbl.trans (h4.mono hbs)⟩
end Go.Proofs.YthcoemkbdllcfaaDoor
