/-
  The walks of garmentref01.Bits, Shift and Half.
-/
import Derived.Test.YthcoemkbdllcfaaDoorRefC
namespace Go.Proofs.YthcoemkbdllcfaaDoor
open Go.RowKit

/-- m has j binary digits. -/
def Bt (m j : Nat) : Prop := m < 2 ^ j ∧ (0 < j → 2 ^ (j - 1) ≤ m)
theorem K_pow (k : Nat) : Num.K ^ k = 2 ^ (32 * k) := by rw [Nat.pow_mul, Num.K_eq]
def BEnd (m k : Nat) (w : World) (e : Ending) (w' : World) : Prop := ∃ j : Nat, e = .returned (.int .i64 (j : Int)) ∧ Bt m j ∧ j ≤ 32 * k ∧ Below w.heap.size w w'
/-- The loop of Bits: j digits of the top limb x are counted, y is left. -/
def BtInv (x j y : Nat) : Prop := x < (y + 1) * 2 ^ j ∧ y * 2 ^ j ≤ x ∧ (0 < j → 2 ^ (j - 1) ≤ x) ∧ j ≤ 32
theorem BtInv.step {x j y : Nat} (h : BtInv x j y) (hx : x < 4294967296) (hy : 0 < y) : BtInv x (j + 1) (y / 2) := by
  obtain ⟨h1, h2, h3, h4⟩ := h
  have h5 : 2 ^ j ≤ x := Nat.le_trans (Nat.le_mul_of_pos_left _ hy) h2
  have h6 : j < 32 := by
    rcases Nat.lt_or_ge j 32 with h | h
    · exact h
    · have := Nat.pow_le_pow_right (show 0 < 2 by omega) h
      omega
  refine ⟨?_, ?_, fun _ => h5, h6⟩
  · rw [Nat.pow_succ, Nat.mul_comm (2 ^ j) 2, ← Nat.mul_assoc]
    exact Nat.lt_of_lt_of_le h1 (Nat.mul_le_mul_right _ (by omega))
  · rw [Nat.pow_succ, Nat.mul_comm (2 ^ j) 2, ← Nat.mul_assoc]
    exact Nat.le_trans (Nat.mul_le_mul_right _ (by omega)) h2
theorem BtInv.fin {x j : Nat} (h : BtInv x j 0) (n : Nat) (T : Nat) (hT : T < Num.K ^ n) (hx : 0 < x) : Bt (T + Num.K ^ n * x) (32 * n + j) ∧ 0 < j := by
  obtain ⟨h1, h2, h3, h4⟩ := h
  have hj : 0 < j := by
    rcases Nat.eq_zero_or_pos j with h | h
    · subst h; simp at h1; omega
    · exact h
  have h3' := h3 hj
  rw [K_pow] at hT ⊢
  refine ⟨⟨?_, fun _ => ?_⟩, hj⟩
  · rw [Nat.pow_add]
    have := Nat.mul_le_mul_left (2 ^ (32 * n)) (show x + 1 ≤ 2 ^ j by omega)
    rw [Nat.mul_add] at this
    omega
  · rw [show 32 * n + j - 1 = 32 * n + (j - 1) from by omega, Nat.pow_add]
    have := Nat.mul_le_mul_left (2 ^ (32 * n)) h3'
    omega

set_option maxRecDepth 4000 in
set_option maxHeartbeats 1000000 in
theorem rbits_n {w : World} {va : Value} {a k : Nat} (ha : Nm w va a k) (hk : k ≤ 1000) : Calls Tryd.prog 69 #[va] w (BEnd a k w) := by
  go_enter Tryd.func69, Tryd.ntmps69
  go_wp2_with fail
  refine (rnorm_n ha hk).mono ?_
  rintro e w1 ⟨v, rfl, ⟨l, hr, hn, hv, hlk⟩, hb⟩
  obtain ⟨A, n, c, rfl, Hn, hnc, hc, HL, hA⟩ := hr.open_
  have hnk : n ≤ k := by have := Hn.out; omega
  have Hv := Lib.hid hv
  have Hnr := Lib.hid hn
  clear hr hv hn ha
  by_cases h0 : n = 0
  · subst h0
    have Ha0 : Hid (a = 0) := by
      show a = 0
      rw [← Hv.out, List.eq_nil_of_length_eq_zero Hn.out]
      rfl
    go_wp2
    go_ret
    exact ⟨0, rfl, ⟨by rw [Ha0.out]; simp, by omega⟩, by omega, hb⟩
  · obtain ⟨p, rfl⟩ : ∃ p, n = p + 1 := ⟨n - 1, by omega⟩
    obtain ⟨x, hx⟩ : ∃ x, l[p]? = some x := ⟨_, List.getElem?_eq_getElem (by have := Hn.out; omega)⟩
    obtain ⟨g, off, rfl, _, hcs⟩ := hA (by have := Hn.out; omega)
    have hcell := hcs _ _ hx
    have hxb : x < 4294967296 := HL.out.at hx
    have hx0 : Hid (0 < x) := by
      show 0 < x
      have := Hnr.out
      unfold Num.Nrm at this
      rw [List.getLast?_eq_getElem?, show l.length - 1 = p from by have := Hn.out; omega, hx] at this
      simp at this
      omega
    have Hx := Lib.hid hx
    clear hx hcs hA h0
    go_wp2
    go_loop [4, 5] (fun b y => ∃ j q : Nat, b = .int .i64 (32 * (p : Int) + j) ∧ y = .int .u32 (q : Int) ∧ Hid (BtInv x j q) ∧ j ≤ 32 ∧ q ≤ x) (fun _ y => (intOf y).toNat)
    case atStart => exact ⟨0, x, by go_num, rfl, ⟨by simp, by simp, by omega, by omega⟩, by omega, by omega⟩
    case round =>
      obtain ⟨j, q, rfl, rfl, Hinv, hj, hq⟩ := hrel
      by_cases hq0 : 0 < q
      · go_wp2
        go_round
        case rel => exact ⟨j + 1, q / 2, by go_num, by go_num, Hinv.out.step hxb hq0, (Hinv.out.step hxb hq0).2.2.2, by omega⟩
        case measure => simp [intOf] <;> omega
      · have hq00 : q = 0 := by omega
        subst hq00
        go_wp2
        go_ret
        have h1 := Hinv.out.fin p (Num.val (l.take p)) (by have := take_lt l HL.out p; exact this) hx0.out
        rw [← val_take_succ l p x Hx.out, List.take_of_length_le (by have := Hn.out; omega), Hv.out] at h1
        exact ⟨32 * p + j, by congr 2, h1.1, by omega, hb⟩
end Go.Proofs.YthcoemkbdllcfaaDoor
