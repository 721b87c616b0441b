/-
  The walk of natural.Cmp: -1, 0 or 1 as the first number is less, equal or greater.
-/
import Derived.Test.YthcoemkbdllcfaaDoorBase
namespace Go.Proofs.YthcoemkbdllcfaaDoor
open Go.RowKit

def cmpI (a b : Nat) : Int := if a < b then -1 else if a = b then 0 else 1
theorem cmpI_lt {a b : Nat} (h : a < b) : cmpI a b = -1 := by simp [cmpI, h]
theorem cmpI_gt {a b : Nat} (h : b < a) : cmpI a b = 1 := by unfold cmpI; rw [if_neg (by omega), if_neg (by omega)]
theorem cmpI_eq {a b : Nat} (h : a = b) : cmpI a b = 0 := by unfold cmpI; rw [if_neg (by omega), if_pos h]
theorem ret_i64 {a b : Int} (h : a = b) : Ending.returned (.int .i64 a) = .returned (.int .i64 b) := by rw [h]
theorem cmp_at (p q P x y D : Nat) (hp : p < P) (h : x < y) : p + P * (x + D) < q + P * (y + D) := by
  have : P * (x + 1 + D) ≤ P * (y + D) := Nat.mul_le_mul_left _ (by omega)
  have e : P * (x + 1 + D) = P * (x + D) + P := by rw [show x + 1 + D = (x + D) + 1 from by omega, Nat.mul_add, Nat.mul_one]
  omega
theorem val_at (l : List Nat) (k x : Nat) (hx : l[k]? = some x) : Num.val l = Num.val (l.take k) + Num.K ^ k * (x + Num.K * Num.val (l.drop (k + 1))) := by
  have hk := (List.getElem?_eq_some_iff.1 hx).1
  rw [Num.val_split l k (by omega)]
  congr 2
  rw [List.drop_eq_getElem_cons hk]
  have e := (List.getElem?_eq_some_iff.1 hx).2
  rw [e]
  rfl
/-- Two lists of n limbs that agree from k on. -/
def Top (la lb : List Nat) (k : Nat) : Prop := la.drop k = lb.drop k
theorem Top.start (la lb : List Nat) (n : Nat) (ha : la.length = n) (hb : lb.length = n) : Top la lb n := by
  unfold Top; rw [List.drop_of_length_le (by omega), List.drop_of_length_le (by omega)]
theorem Top.step {la lb : List Nat} {k x : Nat} (h : Top la lb (k + 1)) (hx : la[k]? = some x) (hy : lb[k]? = some x) : Top la lb k := by
  unfold Top at h ⊢
  have hk := (List.getElem?_eq_some_iff.1 hx).1
  have hl := (List.getElem?_eq_some_iff.1 hy).1
  rw [List.drop_eq_getElem_cons hk, List.drop_eq_getElem_cons hl, h, (List.getElem?_eq_some_iff.1 hx).2, (List.getElem?_eq_some_iff.1 hy).2]
theorem Top.lt {la lb : List Nat} {k x y : Nat} (h : Top la lb (k + 1)) (hx : la[k]? = some x) (hy : lb[k]? = some y) (hL : Num.Lim la) (hlt : x < y) : Num.val la < Num.val lb := by
  rw [val_at la k x hx, val_at lb k y hy, h]
  have h1 := Num.val_lt (la.take k) (hL.take k)
  have hk := (List.getElem?_eq_some_iff.1 hx).1
  rw [List.length_take, Nat.min_eq_left (by omega)] at h1
  exact cmp_at _ _ _ _ _ _ h1 hlt
theorem Top.symm {la lb : List Nat} {k : Nat} (h : Top la lb k) : Top lb la k := Eq.symm h
theorem Top.all {la lb : List Nat} (h : Top la lb 0) : la = lb := by simpa [Top] using h

set_option maxHeartbeats 1000000 in
theorem cmp_walk (va vb : Value) (la lb : List Nat) (w : World) (ha : Rd w (fun _ => True) va la) (hb : Rd w (fun _ => True) vb lb) :
    Calls Tryd.prog 44 #[va, vb] w fun e w' => e = .returned (.int .i64 (cmpI (Num.val la) (Num.val lb))) ∧ ∃ q, w' = w.drewN q := by
  obtain ⟨A, n, c, rfl, Hn, hnc, hc, HLa, hA⟩ := ha.open_
  obtain ⟨B, m, d, rfl, Hm, hmd, hd, HLb, hB⟩ := hb.open_
  clear ha hb
  go_enter Tryd.func44, Tryd.ntmps44
  go_wp2_with fail
  refine (trim_walk _ A n c la _ Hn.out.symm hnc hc hA).mono ?_
  rintro e w' ⟨⟨k1, hk1, rfl, hza, hna⟩, rfl⟩
  go_wp2_with fail
  refine (trim_walk _ B m d lb _ Hm.out.symm hmd hd hB).mono ?_
  rintro e w' ⟨⟨k2, hk2, rfl, hzb, hnb⟩, rfl⟩
  have Hva := Lib.hid (hza.val (by have := Hn.out; omega))
  have Hvb := Lib.hid (hzb.val (by have := Hm.out; omega))
  have La : Hid ((la.take k1).length = k1) := by show _ = _; have := Hn.out; rw [List.length_take]; omega
  have Lb : Hid ((lb.take k2).length = k2) := by show _ = _; have := Hm.out; rw [List.length_take]; omega
  by_cases hne : k1 = k2
  · subst hne
    have hbb : ((k1 : Int) != k1) = false := by simp
    obtain ⟨la1, hla1⟩ : ∃ l, l = la.take k1 := ⟨_, rfl⟩
    obtain ⟨lb1, hlb1⟩ : ∃ l, l = lb.take k1 := ⟨_, rfl⟩
    have hA1 := hA.take k1
    have hB1 := hB.take k1
    have HLa1 : Hid (Num.Lim la1) := by rw [hla1]; exact HLa.out.take _
    have HLb1 : Hid (Num.Lim lb1) := by rw [hlb1]; exact HLb.out.take _
    rw [← hla1] at La Hva hA1
    rw [← hlb1] at Lb Hvb hB1
    have ha0 : Num.Nrm la1 := by rw [hla1]; exact hna
    clear hla1 hlb1 hA hB hna hnb hza hzb
    go_wp2
    go_loopw [5] (fun i wr => ∃ k : Nat, k ≤ k1 ∧ i = .int .i64 ((k : Int) - 1) ∧ Top la1 lb1 k ∧ ∃ q, wr = w.drewN q) (fun i _ => (intOf i + 1).toNat)
    case atStart => exact ⟨k1, Nat.le_refl _, rfl, Top.start _ _ _ La.out Lb.out, 0, rfl⟩
    case round =>
      obtain ⟨k, hk, rfl, htop, q, rfl⟩ := hrel
      by_cases h0 : k = 0
      · have hk0 : ¬ 0 ≤ (k : Int) - 1 := by omega
        clear h0
        go_wp2
        go_ret
        refine ⟨ret_i64 ?_, q, rfl⟩
        obtain rfl : k = 0 := by omega
        rw [cmpI_eq]
        rw [← Hva.out, ← Hvb.out, htop.all]
      · have hk0 : 0 ≤ (k : Int) - 1 := by omega
        have hkp : 0 < k := by omega
        have hkt : ((k : Int) - 1).toNat = k - 1 := by omega
        have hkl : (k : Int) - 1 < (k1 : Int) := by omega
        obtain ⟨g, off, rfl, _, hcs⟩ := hA1 (by have := La.out; omega)
        obtain ⟨g', off', rfl, _, hct⟩ := hB1 (by have := Lb.out; omega)
        obtain ⟨x, hx⟩ : ∃ x, la1[k - 1]? = some x := ⟨_, List.getElem?_eq_getElem (by have := La.out; omega)⟩
        obtain ⟨y, hy⟩ : ∃ y, lb1[k - 1]? = some y := ⟨_, List.getElem?_eq_getElem (by have := Lb.out; omega)⟩
        have hcx := hcs _ _ hx
        have hcy := hct _ _ hy
        have Hx := Lib.hid hx
        have Hy := Lib.hid hy
        have Ht : Hid (Top la1 lb1 (k - 1 + 1)) := by show Top _ _ _; rw [show k - 1 + 1 = k from by omega]; exact htop
        clear hx hy hcs hct hA1 hB1 h0 htop
        by_cases hxy : x = y
        · subst hxy
          have hbn : ((x : Int) != x) = false := by simp
          go_wp2_with fail
          go_quiet (fail)
          go_wp2
          go_roundw
          case rel => exact ⟨k - 1, by omega, by go_num, Ht.out.step Hx.out Hy.out, _, rfl⟩
          case measure => simp [intOf]; omega
        · have hbn : ((x : Int) != y) = true := by simp; omega
          go_wp2_with fail
          go_quiet (fail)
          go_wp2_with fail
          go_quiet ((go_at_call 64; exact quiet_q (fun W => sign_any _ W)))
          go_wp2
          go_ret
          refine ⟨ret_i64 ?_, by simp only [World.drewN_drewN]; exact ⟨_, rfl⟩⟩
          rcases Nat.lt_or_ge x y with hlt | hge
          · rw [signI_false (by simp; omega), cmpI_lt]
            rw [← Hva.out, ← Hvb.out]
            exact Ht.out.lt Hx.out Hy.out HLa1.out hlt
          · rw [signI_true (by simp; omega), cmpI_gt]
            rw [← Hva.out, ← Hvb.out]
            exact Ht.out.symm.lt Hy.out Hx.out HLb1.out (by omega)
  · have hbb : ((k1 : Int) != k2) = true := by simp; omega
    go_wp2_with fail
    refine (sign_any _ _).mono ?_
    rintro e w' ⟨rfl, rfl⟩
    go_wp2
    go_ret
    refine ⟨ret_i64 ?_, 0, rfl⟩
    rcases Nat.lt_or_ge k1 k2 with hlt | hge
    · rw [signI_false (by simp; omega), cmpI_lt]
      rw [← Hva.out, ← Hvb.out]
      exact Num.Nrm.lt_of_length (HLa.out.take _) hnb (by have := La.out; have := Lb.out; omega)
    · rw [signI_true (by simp; omega), cmpI_gt]
      rw [← Hva.out, ← Hvb.out]
      exact Num.Nrm.lt_of_length (HLb.out.take _) hna (by have := La.out; have := Lb.out; omega)
end Go.Proofs.YthcoemkbdllcfaaDoor
