/-
  The walk of garmentref01.small.
-/
import Derived.Test.YthcoemkbdllcfaaDoorRefF
namespace Go.Proofs.YthcoemkbdllcfaaDoor
open Go.RowKit

/-- The loop of small: the limbs from j on are done. -/
def SmInv (e : TypeId) (g n : Nat) (la : List Nat) (w : World) (rv i : Value) (wr : World) : Prop :=
  ∃ (j r : Nat) (q : List Nat), i = .int .i64 ((j : Int) - 1) ∧ j ≤ n ∧ rv = .int .u64 (r : Int) ∧ r < 10 ∧ Own e wr g q ∧ q.length = n ∧ Num.Lim q ∧ Num.val (q.drop j) * 10 + r = Num.val (la.drop j) ∧ w.grownBy wr (some g)
theorem sm_num (Qd r V K x d r' : Nat) (hv : Qd * 10 + r = V) (hd : d * 10 + r' = r * K + x) : (d + K * Qd) * 10 + r' = x + K * V := by
  subst hv
  rw [Nat.add_mul, Nat.mul_add, Nat.mul_assoc K Qd 10, Nat.mul_comm K r]
  omega
def SmEnd (a k : Nat) (w : World) (e : Ending) (w' : World) : Prop := ∃ v, e = .returned (.tuple #[v, .int .u64 ((a % 10 : Nat) : Int)]) ∧ Nz w' v (a / 10) k ∧ Below w.heap.size w w'
set_option maxRecDepth 4000 in
set_option maxHeartbeats 2000000 in
theorem rsmall_n {w : World} {va : Value} {a k : Nat} (ha : Nm w va a k) (hk : k ≤ 1000) : Calls Tryd.prog 82 #[va, .int .u64 10] w (SmEnd a k w) := by
  obtain ⟨i0, hi, hz0, hz1, hz2⟩ := info_parts info_u32
  have Hlt := Lib.hid ha.lt
  obtain ⟨la, ra, hva, hla⟩ := ha
  obtain ⟨A, n, c, rfl, Hn, hnc, hc, HLa, hA⟩ := ra.open_
  have hn : n ≤ k := by have := Hn.out; omega
  have Hva := Lib.hid hva
  have hA1 := hA.old
  clear ra hva hla hA
  go_enter Tryd.func82, Tryd.ntmps82
  go_wp2_with (at_make; refine wpList_make_u32 _ rfl (.tmp 11) (.tmp 11) 23 rfl 46 i0 Tryd.underlying23 hi hz0 hz1 hz2 .i64 .i64 _ _ n rfl rfl (by omega) (by omega) (by omega) ?_; intro g w1 hg1 hown1 hb1 hs1; have Hg := Lib.hid hg1; clear hg1)
  have hA2 : Cel w1 (· ≠ g) A la := hA1.keep (fun i hi => by have := Hg.out; have := hi.2; omega) (fun i o hi => hb1.cell (p := ⟨i, o, none⟩) hi.2)
  have Bg : w.heap.size ≤ g := by have := Hg.out; omega
  clear hA1
  go_loopw [7, 8] (fun rv i wr => SmInv 46 g n la w1 rv i wr) (fun _ i _ => (intOf i + 1).toNat)
  case atStart => exact ⟨n, 0, _, int_i64 (by omega), Nat.le_refl _, rfl, by omega, hown1, by simp, Num.Lim.replicate _, by rw [List.drop_of_length_le (by simp), List.drop_of_length_le (by have := Hn.out; omega)]; simp [Num.val], only_refl _ _⟩
  case round =>
    obtain ⟨j, r, q, rfl, hj, rfl, hr, hown, hql, hqL, hv, hgr⟩ := hrel
    have Hql := Lib.hid hql
    have HqL := Lib.hid hqL
    have Hv := Lib.hid hv
    clear hql hqL hv hown1
    by_cases h0 : j = 0
    · subst h0
      have hrd : Rd wr (fun _ => True) (.slice (some ⟨g, 0, none⟩) n n) q := by have := hown.rd (fun _ => True) trivial HqL.out (by have := Hql.out; omega); rwa [Hql.out] at this
      go_wp2_with fail
      refine (rnorm_n ⟨q, hrd, rfl, Nat.le_of_eq Hql.out⟩ (by omega)).mono ?_
      rintro e w7 ⟨v1, rfl, h1, b7⟩
      go_wp2
      go_ret2
      have h2 := Hv.out
      rw [List.drop_zero, List.drop_zero, Hva.out] at h2
      have e1 : Num.val q = a / 10 := by omega
      have e2 : r = a % 10 := by omega
      have hbw : Below w.heap.size w wr := below_only hb1 Bg hgr
      refine ⟨v1, by rw [e2]; rfl, ?_, hbw.trans (b7.mono hbw.size)⟩
      rw [← e1]
      obtain ⟨l, f1, f2, f3, f4⟩ := h1
      exact ⟨l, f1.mono (fun _ _ => trivial), f2, f3, Nat.le_trans f4 hn⟩
    · obtain ⟨p, rfl⟩ : ∃ p, j = p + 1 := ⟨j - 1, by omega⟩
      clear h0
      have hxb := lm_lt HLa.out p
      obtain ⟨x, hx⟩ : ∃ x, x = lm la p := ⟨_, rfl⟩
      have L1 := Lib.hid (fun w => limb_walk A n c p la w Hn.out (by omega) (by omega) HLa.out)
      rw [← hx] at hxb L1
      have Hx := Lib.hid hx
      clear hx
      have hA3 : Cel wr (fun _ => True) A la := (hA2.only (fun _ h => h) hgr).mono (fun _ _ => trivial)
      obtain ⟨u, hu⟩ : ∃ u, q[p]? = some u := ⟨_, List.getElem?_eq_getElem (by have := Hql.out; omega)⟩
      have hcell := hown.cel _ _ hu
      rw [Nat.zero_add] at hcell
      have hfr := hown.frozen p
      have hplt : p < q.length := by have := Hql.out; omega
      have HP := Lib.hid hplt
      have HW : ∀ z : Int, z = (((r * 4294967296 + x) / 10 : Nat) : Int) → Own 46 (wr.setCell ⟨g, p, none⟩ (.int .u32 z)) g (q.set p ((r * 4294967296 + x) / 10)) := by
        rintro z rfl
        exact hown.set_ _ _
      have HWl := Lib.hid HW
      clear HW hu hplt
      go_wp2_with fail
      refine (L1.out _ hA3).mono ?_
      rintro e w' ⟨rfl, rfl⟩
      go_wp2
      go_roundw
      case rel =>
        refine ⟨p, (r * 4294967296 + x) % 10, q.set p ((r * 4294967296 + x) / 10), int_i64 (by omega), by omega, int_u64 (by omega), by omega, HWl.out _ (by omega), by rw [List.length_set]; exact Hql.out, HqL.out.set _ _ (by rw [Num.K_eq]; omega), ?_, only_setCell hgr _ _⟩
        have e1 : lm (q.set p ((r * 4294967296 + x) / 10)) p = (r * 4294967296 + x) / 10 := lm_at (List.getElem?_set_self HP.out)
        have e3 : (q.set p ((r * 4294967296 + x) / 10)).drop (p + 1) = q.drop (p + 1) := by rw [List.drop_set]; simp
        rw [drop_lm _ p, e1, e3, drop_lm la p, ← Hx.out]
        exact sm_num _ _ _ _ _ _ _ Hv.out (by rw [Num.K_eq]; omega)
      case measure => simp [intOf] <;> omega
end Go.Proofs.YthcoemkbdllcfaaDoor
