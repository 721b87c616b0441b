/-
  The walks of garmentref01.Gcd and Sqrt.
-/
import Derived.Test.YtldkiolkhpjhbaaDoorRefF
namespace Go.Proofs.YtldkiolkhpjhbaaDoor
open Go.RowKit

theorem Nz.wide {w : World} {v : Value} {m k k' : Nat} (h : Nz w v m k) (hk : k ≤ k') : Nz w v m k' := by
  obtain ⟨l, h1, h2, h3, h4⟩ := h
  exact ⟨l, h1, h2, h3, by omega⟩
theorem Nz.some {w : World} {v : Value} {m k : Nat} (h : Nz w v m k) (hm : 0 < m) : ∃ A n c, v = .slice A n c ∧ 0 < n := by
  obtain ⟨l, h1, h0, h2, h3⟩ := h
  obtain ⟨A, c, e⟩ := h1.len
  refine ⟨A, _, c, e, ?_⟩
  rcases Nat.eq_zero_or_pos l.length with h | h
  · rw [List.eq_nil_of_length_eq_zero h] at h2
    simp [Num.val] at h2
    omega
  · exact h
/-- The loop of Gcd; gk: the second number. -/
def GcInv (a b k : Nat) (w : World) (gk : Nat) (vx vy : Value) (wr : World) : Prop :=
  ∃ x, Nz wr vx x k ∧ Nz wr vy gk k ∧ Nat.gcd x gk = Nat.gcd a b ∧ Below w.heap.size w wr

set_option maxHeartbeats 2000000 in
theorem rgcd_n {w : World} {va vb : Value} {a b k j : Nat} (ha : Nm w va a k) (hb : Nm w vb b j) (hk : k ≤ 100) (hj : j ≤ 100) : Calls Tryd.prog 31 #[va, vb] w (NEnd (Nat.gcd a b) (max k j) w) := by
  obtain ⟨m, hm⟩ : ∃ m, m = max k j := ⟨_, rfl⟩
  rw [← hm]
  have hkm : k ≤ m := by omega
  have hjm : j ≤ m := by omega
  have hmb : m ≤ 100 := by omega
  clear hm
  go_enter Tryd.func31, Tryd.ntmps31
  go_wp2_with fail
  refine (rnorm_n ha (by omega)).mono ?_
  rintro e w1 ⟨vx, rfl, hx1, b1⟩
  have hb1 := hb.below b1
  clear ha hb
  go_wp2_with fail
  refine (rnorm_n hb1 (by omega)).mono ?_
  rintro e w2 ⟨vy, rfl, hy2, b2⟩
  have hx2 := hx1.nz.below b2
  have B2 := b1.trans (b2.mono b1.size)
  have hx3 := hx2.wide hkm
  have hy3 := hy2.nz.wide hjm
  clear b1 b2 hb1 hx1 hx2 hy2
  go_wp2
  go_loopg [5, 6] b (fun gk vx vy wr => GcInv a b m w gk vx vy wr)
  case atStart => exact ⟨a, hx3, hy3, rfl, B2⟩
  case round =>
    obtain ⟨x, hx, hy, hg, hbl⟩ := hrel
    have Hg := Lib.hid hg
    clear hg hx3 hy3 B2
    by_cases h0 : gk = 0
    · subst h0
      obtain ⟨A, c, rfl⟩ := hy.empty
      clear hy
      go_wp2
      go_ret
      have h1 := Hg.out
      rw [Nat.gcd_zero_right] at h1
      subst h1
      exact ⟨_, rfl, hx, hbl⟩
    · have hpos : 0 < gk := by omega
      obtain ⟨A, n, c, rfl, hn⟩ := hy.some hpos
      have Hpos := Lib.hid hpos
      clear hpos h0
      go_wp2_with fail
      refine (rdiv_n hx.nm hy.nm hmb hmb Hpos.out).mono ?_
      rintro e w3 ⟨v1, v2, rfl, h1, h2, b3⟩
      have hy3 := hy.below b3
      have B3 := hbl.trans (b3.mono hbl.size)
      clear hx hy h1 b3
      go_wp2
      go_roundg (x % gk)
      case measure => exact Nat.mod_lt _ Hpos.out
      case rel => exact ⟨gk, hy3, h2, by rw [← Hg.out, Nat.gcd_comm x gk, Nat.gcd_rec gk x, Nat.gcd_comm], B3⟩

def SqEnd (a k : Nat) (w : World) (e : Ending) (w' : World) : Prop := ∃ v s, e = .returned v ∧ Nz w' v s k ∧ s * s ≤ a ∧ a < (s + 1) * (s + 1) ∧ Below w.heap.size w w'
/-- The loop of Sqrt, j binary places are left. -/
def SqInv (va : Value) (a k top : Nat) (w : World) (vr i : Value) (wr : World) : Prop :=
  ∃ j r : Nat, i = .int .i64 ((j : Int) - 1) ∧ j ≤ top ∧ Nz wr vr r k ∧ Nm wr va a k ∧ r * r ≤ a ∧ a < (r + 2 ^ j) * (r + 2 ^ j) ∧ Below w.heap.size w wr
theorem sq_start {a j : Nat} (h : Bt a j) : a < (0 + 2 ^ (j / 2 + 1)) * (0 + 2 ^ (j / 2 + 1)) := by
  rw [Nat.zero_add, ← Nat.pow_add]
  exact Nat.lt_of_lt_of_le h.1 (Nat.pow_le_pow_right (by omega) (by omega))
theorem sq_small {r a N : Nat} (h : r * r ≤ a) (ha : a < N) : r < N := by
  rcases Nat.eq_zero_or_pos r with h0 | h0
  · omega
  · have := Nat.le_mul_of_pos_left r h0
    omega
set_option maxHeartbeats 2000000 in
theorem rsqrt_n {w : World} {va : Value} {a k : Nat} (ha : Nm w va a k) (hk : k ≤ 100) : Calls Tryd.prog 33 #[va] w (SqEnd a k w) := by
  have Hlt := Lib.hid ha.lt
  go_enter Tryd.func33, Tryd.ntmps33
  go_wp2_with fail
  refine (rbits_n ha (by omega)).mono ?_
  rintro e w1 ⟨jb, rfl, hbt, hjb, b1⟩
  have Hbt := Lib.hid hbt
  have ha1 := ha.below b1
  clear hbt ha
  go_wp2
  go_loopw [3, 4] (fun vr i wr => SqInv va a k (jb / 2 + 1) w vr i wr) (fun _ i _ => (intOf i + 1).toNat)
  case atStart => exact ⟨jb / 2 + 1, 0, int_i64 (by omega), Nat.le_refl _, (Nz.nil _).wide (Nat.zero_le _), ha1, by omega, sq_start Hbt.out, b1⟩
  case round =>
    obtain ⟨j, r, rfl, hj, hr, hav, hlo, hhi, hbl⟩ := hrel
    have Hlo := Lib.hid hlo
    have Hhi := Lib.hid hhi
    clear hlo hhi ha1 b1
    by_cases h0 : j = 0
    · subst h0
      go_wp2
      go_ret
      have h1 := Hhi.out
      rw [Nat.pow_zero] at h1
      exact ⟨_, r, rfl, hr, Hlo.out, h1, hbl⟩
    · obtain ⟨p, rfl⟩ : ∃ p, j = p + 1 := ⟨j - 1, by omega⟩
      clear h0
      go_wp2_with fail
      refine (rof_n 1 (by omega)).mono ?_
      rintro e w2 ⟨v1, rfl, h1, b2⟩
      have hr2 := hr.below b2
      have ha2 := hav.below b2
      have B2 := hbl.trans (b2.mono hbl.size)
      clear hr hav b2 hbl
      go_wp2_with fail
      refine (rshift_n p (by omega) h1.nm (by omega)).mono ?_
      rintro e w3 ⟨v3, rfl, h3, b3⟩
      have hr3 := hr2.below b3
      have ha3 := ha2.below b3
      have B3 := B2.trans (b3.mono B2.size)
      rw [Nat.one_mul] at h3
      clear hr2 ha2 b3 B2 h1
      go_wp2_with fail
      refine (radd_n hr3.nm h3.nz.nm (by omega) (by omega)).mono ?_
      rintro e w4 ⟨v4, rfl, h4, b4⟩
      have h4' := h4.nz
      have hr4 := hr3.below b4
      have ha4 := ha3.below b4
      have B4 := B3.trans (b4.mono B3.size)
      clear hr3 ha3 b4 B3 h3 h4
      go_wp2_with fail
      refine (rmul_n h4'.nm h4'.nm (by omega) (by omega)).mono ?_
      rintro e w5 ⟨v5, rfl, h5, b5⟩
      have h5' := h5.nz
      have h45 := h4'.below b5
      have hr5 := hr4.below b5
      have ha5 := ha4.below b5
      have B5 := B4.trans (b5.mono B4.size)
      clear hr4 ha4 b5 B4 h4' h5
      by_cases hle : (r + 2 ^ p) * (r + 2 ^ p) ≤ a
      · obtain ⟨ci, hci0, hci⟩ : ∃ ci : Int, ci ≤ 0 ∧ cmpI ((r + 2 ^ p) * (r + 2 ^ p)) a = ci := by
          rcases Nat.lt_or_ge ((r + 2 ^ p) * (r + 2 ^ p)) a with h | h
          · exact ⟨_, by rw [cmpI_lt h]; omega, rfl⟩
          · exact ⟨_, by rw [cmpI_eq (by omega)]; omega, rfl⟩
        have Hci := Lib.hid hci
        have Hle := Lib.hid hle
        clear hci hle
        go_wp2_with fail
        refine (rcmp_n h5'.nm ha5 (by omega) (by omega) ci Hci.out).mono ?_
        rintro e w6 ⟨rfl, b6⟩
        go_wp2
        go_roundw
        case rel =>
          refine ⟨p, r + 2 ^ p, int_i64 (by omega), by omega, ?_, ha5.below b6, Hle.out, ?_, B5.trans (b6.mono B5.size)⟩
          · obtain ⟨l, f1, f2, f3, f4⟩ := h45.below b6
            exact ⟨l, f1, f2, f3, f2.len_le (by rw [f3]; exact sq_small Hle.out Hlt.out)⟩
          · have h6 := Hhi.out
            rwa [Nat.pow_succ, Nat.mul_two, ← Nat.add_assoc] at h6
        case measure => simp [intOf] <;> omega
      · have Hgt := Lib.hid (show a < (r + 2 ^ p) * (r + 2 ^ p) by omega)
        clear hle
        go_wp2_with fail
        refine (rcmp_n h5'.nm ha5 (by omega) (by omega) 1 (cmpI_gt Hgt.out)).mono ?_
        rintro e w6 ⟨rfl, b6⟩
        go_wp2
        go_roundw
        case rel => exact ⟨p, r, int_i64 (by omega), by omega, hr5.below b6, ha5.below b6, Hlo.out, Hgt.out, B5.trans (b6.mono B5.size)⟩
        case measure => simp [intOf] <;> omega
end Go.Proofs.YtldkiolkhpjhbaaDoor
