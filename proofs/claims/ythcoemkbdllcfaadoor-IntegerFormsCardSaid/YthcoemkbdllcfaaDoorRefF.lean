/-
  The walk of garmentref01.DivMod.
-/
import Derived.Test.YthcoemkbdllcfaaDoorRefE
namespace Go.Proofs.YthcoemkbdllcfaaDoor
open Go.RowKit

/-- Limb t of q is divisible by what is below binary place j. -/
def Dv (q : List Nat) (j : Nat) : Prop := ∀ t x : Nat, q[t]? = some x → 2 ^ (j - 32 * t) ∣ x
theorem Dv.zero (n j : Nat) : Dv (List.replicate n 0) j := fun t x hx => by
  obtain ⟨_, h⟩ := List.getElem?_eq_some_iff.1 hx
  simp at h
  subst h
  exact Nat.dvd_zero _
theorem Dv.down {q : List Nat} {j : Nat} (h : Dv q (j + 1)) : Dv q j := fun t x hx => Nat.dvd_trans (Nat.pow_dvd_pow 2 (by omega)) (h t x hx)
theorem Dv.set {q : List Nat} {t s x : Nat} (h : Dv q (32 * t + s + 1)) (hx : q[t]? = some x) : Dv (q.set t (x + 2 ^ s)) (32 * t + s) := fun t' x' hx' => by
  by_cases e : t = t'
  · subst e
    rw [List.getElem?_set_self (List.getElem?_eq_some_iff.1 hx).1] at hx'
    injection hx' with hx'
    subst hx'
    have h1 := h _ _ hx
    rw [show 32 * t + s - 32 * t = s from by omega]
    exact Nat.dvd_add (Nat.dvd_trans (Nat.pow_dvd_pow 2 (by omega)) h1) (Nat.dvd_refl _)
  · rw [List.getElem?_set_ne e] at hx'
    exact h.down _ _ hx'
theorem Dv.room {q : List Nat} {t s x : Nat} (h : Dv q (32 * t + s + 1)) (hx : q[t]? = some x) (hs : s ≤ 31) (hb : x < 4294967296) : x + 2 ^ s < 4294967296 := by
  have h1 := h _ _ hx
  rw [show 32 * t + s + 1 - 32 * t = s + 1 from by omega] at h1
  obtain ⟨c, rfl⟩ := h1
  have e : 2 ^ (s + 1) * 2 ^ (31 - s) = 4294967296 := by rw [← Nat.pow_add, show s + 1 + (31 - s) = 32 from by omega]
  have hc : c < 2 ^ (31 - s) := by
    rw [← e] at hb
    exact Nat.lt_of_mul_lt_mul_left hb
  have h2 := Nat.mul_le_mul_left (2 ^ (s + 1)) (show c + 1 ≤ 2 ^ (31 - s) from hc)
  rw [e, Nat.mul_add, Nat.mul_one, Nat.pow_succ] at h2
  rw [Nat.pow_succ]
  have h0 : 0 < 2 ^ s := Nat.pow_pos (by omega)
  omega
theorem val_set (q : List Nat) (t x y : Nat) (hx : q[t]? = some x) : Num.val (q.set t y) + Num.K ^ t * x = Num.val q + Num.K ^ t * y := by
  have hlt := (List.getElem?_eq_some_iff.1 hx).1
  have e1 : lm (q.set t y) t = y := lm_at (List.getElem?_set_self hlt)
  have e2 : (q.set t y).take t = q.take t := List.take_set_of_le (Nat.le_refl _)
  have e3 : (q.set t y).drop (t + 1) = q.drop (t + 1) := by rw [List.drop_set]; simp
  have h1 := val_td (q.set t y) t
  have h2 := val_td q t
  rw [drop_lm, e1, e2, e3] at h1
  rw [drop_lm, lm_at hx] at h2
  rw [Nat.mul_add] at h1 h2
  omega
theorem only_of {w w' : World} {r : Option Nat} (h : Below w.heap.size w w') : w.grownBy w' r := ⟨h.os, h.tape, h.output, h.size, fun i hi _ => h.block i hi⟩
theorem dv_half (b D P : Nat) (h : D = b * 2 ^ P) (h0 : 0 < P) : D / 2 = b * 2 ^ (P - 1) := by
  obtain ⟨q, rfl⟩ : ∃ q, P = q + 1 := ⟨P - 1, by omega⟩
  rw [h, Nat.pow_succ, ← Nat.mul_assoc, Nat.mul_div_cancel _ (by omega), Nat.add_sub_cancel]
theorem Bt.le {m j j' : Nat} (h : Bt m j) (h' : Bt m j') : j ≤ j' := by
  rcases Nat.lt_or_ge j' j with hlt | h1
  · have h2 := h.2 (by omega)
    have h3 := Nat.pow_le_pow_right (show 0 < 2 by omega) (show j' ≤ j - 1 by omega)
    have h4 := h'.1
    omega
  · exact h1
theorem Bt.inj {m j j' : Nat} (h : Bt m j) (h' : Bt m j') : j = j' := Nat.le_antisymm (h.le h') (h'.le h)
theorem Bt.less {a b j j' : Nat} (ha : Bt a j) (hb : Bt b j') (h : j < j') : a < b := by
  have h2 := hb.2 (by omega)
  have h3 := Nat.pow_le_pow_right (show 0 < 2 by omega) (show j ≤ j' - 1 by omega)
  have h4 := ha.1
  omega
theorem Bt.top {a b j t : Nat} (ha : Bt a (j + t)) (hb : Bt b j) (hj : 0 < j) : a < b * 2 ^ (t + 1) := by
  have h1 := ha.1
  have h2 := Nat.mul_le_mul_right (2 ^ (t + 1)) (hb.2 hj)
  rw [← Nat.pow_add, show j - 1 + (t + 1) = j + t from by omega] at h2
  omega
theorem rdiv_n0 {w : World} {va vb : Value} {a b k j : Nat} (_ha : Nm w va a k) (hb : Nm w vb b j) (hj : j ≤ 100) (h0 : b = 0) :
    Calls Tryd.prog 52 #[va, vb] w fun e w' => e = .returned (.tuple #[.slice none 0 0, .slice none 0 0, .bool false]) ∧ Below w.heap.size w w' := by
  go_enter Tryd.func52, Tryd.ntmps52
  go_wp2_with fail
  refine (rbits_n hb (by omega)).mono ?_
  rintro e w1 ⟨q, rfl, hbt, _, b1⟩
  have hq : q = 0 := by
    rcases Nat.eq_zero_or_pos q with h | h
    · exact h
    · have := hbt.2 h
      have := Nat.pow_pos (n := q - 1) (show 0 < 2 by omega)
      omega
  subst hq
  clear hbt
  go_wp2
  go_ret3
  exact ⟨rfl, b1⟩

/-- The loop of DivMod, binary place by binary place: j places are left. -/
def DvInv (e : TypeId) (g top a b ka kd : Nat) (w : World) (vr vd i : Value) (wr : World) : Prop :=
  ∃ (j r D : Nat) (q : List Nat), i = .int .i64 ((j : Int) - 1) ∧ j ≤ top + 1 ∧ Ns wr (· ≠ g) vr r ka ∧ Ns wr (· ≠ g) vd D kd ∧ (0 < j → D = b * 2 ^ (j - 1)) ∧ Own e wr g q ∧ q.length = top / 32 + 1 ∧ Num.Lim q ∧ Dv q j ∧ Num.val q * b + r = a ∧ r < b * 2 ^ j ∧ w.grownBy wr (some g)
theorem dv_yes (Q b r D a P Q' : Nat) (h : Q * b + r = a) (hD : D = b * P) (hge : D ≤ r) (hQ : Q' = Q + P) : Q' * b + (r - D) = a := by
  subst hQ
  rw [Nat.add_mul, Nat.mul_comm P b]
  omega
theorem dv_fin (Q b r a : Nat) (h : Q * b + r = a) (hr : r < b) : Q = a / b ∧ r = a % b := by
  have h1 : a / b = Q := Nat.div_eq_of_lt_le (by omega) (by rw [Nat.add_mul]; omega)
  have h2 := Nat.div_add_mod a b
  rw [h1, Nat.mul_comm] at h2
  exact ⟨h1.symm, by omega⟩
set_option maxRecDepth 4000 in
set_option maxHeartbeats 4000000 in
theorem rdiv_n {w : World} {va vb : Value} {a b k j : Nat} (ha : Nm w va a k) (hb : Nm w vb b j) (hk : k ≤ 100) (hj : j ≤ 100) (hb0 : 0 < b) :
    Calls Tryd.prog 52 #[va, vb] w (DNEnd (a / b) (a % b) k j w) := by
  obtain ⟨i0, hi, hz0, hz1, hz2⟩ := info_parts info_u32
  have Hla := Lib.hid ha.lt
  have Hlb := Lib.hid hb.lt
  have Hb0 := Lib.hid hb0
  clear hb0
  go_enter Tryd.func52, Tryd.ntmps52
  go_wp2_with fail
  refine (rbits_n hb (by omega)).mono ?_
  rintro e w1 ⟨jb, rfl, hbt, hjb, b1⟩
  have hj0 : 0 < jb := by
    rcases Nat.eq_zero_or_pos jb with h | h
    · have h1 := hbt.1
      rw [h] at h1
      have := Hb0.out
      simp at h1
      omega
    · exact h
  have Hbt := Lib.hid hbt
  have ha1 := ha.below b1
  have hb1 := hb.below b1
  clear hbt ha hb
  go_wp2_with fail
  refine (rnorm_n ha1 (by omega)).mono ?_
  rintro e w2 ⟨vr, rfl, hr2, b2⟩
  have B2 := b1.trans (b2.mono b1.size)
  have hb2 := hb1.below b2
  have hr2' : Ns w2 (fun _ => True) vr a k := hr2.mono (fun _ _ => trivial)
  clear b1 b2 ha1 hb1 hr2
  go_wp2_with fail
  refine (rbits_n hr2'.nz.nm (by omega)).mono ?_
  rintro e w3 ⟨ja, rfl, hat, hja, b3⟩
  have B3 := B2.trans (b3.mono B2.size)
  have hb3 := hb2.below b3
  have hr3 := hr2'.below b3
  have Hat := Lib.hid hat
  clear b3 B2 hb2 hr2' hat
  go_wp2_with fail
  refine (rbits_n hb3 (by omega)).mono ?_
  rintro e w4 ⟨jb', rfl, hbt', hjb', b4⟩
  have hjj : jb' = jb := hbt'.inj Hbt.out
  subst hjj
  have B4 := B3.trans (b4.mono B3.size)
  have hb4 := hb3.below b4
  have hr4 := hr3.below b4
  clear b4 B3 hb3 hr3 hbt'
  by_cases hlt : ja < jb'
  · go_wp2
    go_ret3
    have h1 := Hat.out.less Hbt.out hlt
    refine ⟨_, _, rfl, ?_, ?_, B4⟩
    · rw [Nat.div_eq_of_lt h1]
      exact ⟨[], Rd.nil _ _, Num.Nrm.nil, rfl, Nat.zero_le _⟩
    · rw [Nat.mod_eq_of_lt h1]
      obtain ⟨l, e1, e2, e3, e4⟩ := hr4
      exact ⟨l, e1, e2, e3, e2.len_le (by rw [e3]; exact Nat.lt_trans h1 Hlb.out)⟩
  · obtain ⟨top, htop⟩ : ∃ top, ja = jb' + top := ⟨ja - jb', by omega⟩
    subst htop
    have htb : top ≤ 3200 := by omega
    have hdiv : ((jb' : Int) + (top : Int) - (jb' : Int)) = (top : Int) := by omega
    clear hlt
    go_wp2_with (at_make; refine wpList_make_u32 _ rfl (.tmp 29) (.tmp 29) 23 rfl 46 i0 Tryd.underlying23 hi hz0 hz1 hz2 .i64 .i64 _ _ (top / 32 + 1) rfl rfl (by omega) (by omega) (by omega) ?_; intro g w5 hg5 hown5 b5 hs5; have Hg := Lib.hid hg5; clear hg5)
    have hr5 : Ns w5 (· ≠ g) vr a k := (hr4.old.below b5).mono (fun i hi => by have := Hg.out; have := hi.2; omega)
    have hb5 := hb4.below b5
    have B5 := B4.trans (b5.mono B4.size)
    have Bg : w.heap.size ≤ g := by have := Hg.out; have := B4.size; omega
    clear hr4 hb4
    go_wp2_with fail
    refine (rshift_n top (by omega) hb5 (by omega)).mono ?_
    rintro e w6 ⟨vd, rfl, hd6, b6⟩
    have hr6 := hr5.below b6
    have hd6' : Ns w6 (· ≠ g) vd (b * 2 ^ top) (top / 32 + j + 1) := hd6.mono (fun i hi => by have := hown5.lt; omega)
    have hown6 := hown5.below b6 hown5.lt
    have hgr6 : w5.grownBy w6 (some g) := only_of b6
    have Hat' := Lib.hid (Hat.out.top Hbt.out hj0)
    clear hb5 hr5 hd6 hown5 b6
    go_wp2
    go_loopw [7, 10, 11] (fun vr vd i wr => DvInv 46 g top a b k (top / 32 + j + 1) w5 vr vd i wr) (fun _ _ i _ => (intOf i + 1).toNat)
    case atStart => exact ⟨top + 1, a, _, _, int_i64 (by omega), Nat.le_refl _, hr6, hd6', fun _ => rfl, hown6, by simp, Num.Lim.replicate _, Dv.zero _ _, by simp [Num.val_replicate], Hat'.out, hgr6⟩
    case round =>
      obtain ⟨p, r, D, q, rfl, hp, hr, hd, hD, hown, hql, hqL, hdv, hv, hrlt, hgr⟩ := hrel
      have HD := Lib.hid hD
      have Hql := Lib.hid hql
      have HqL := Lib.hid hqL
      have Hdv := Lib.hid hdv
      have Hv := Lib.hid hv
      have Hr := Lib.hid hrlt
      have hgl := hown.lt
      clear hD hql hqL hdv hv hrlt hr6 hd6' hown6 hgr6
      by_cases h0 : p = 0
      · subst h0
        have hrd : Rd wr (fun _ => True) (.slice (some ⟨g, 0, none⟩) (top / 32 + 1) (top / 32 + 1)) q := by have := hown.rd (fun _ => True) trivial HqL.out (by have := Hql.out; omega); rwa [Hql.out] at this
        go_wp2_with fail
        refine (rnorm_n ⟨q, hrd, rfl, Nat.le_of_eq Hql.out⟩ (by omega)).mono ?_
        rintro e w7 ⟨v1, rfl, h1, b7⟩
        go_wp2
        go_ret3
        have h2 := Hr.out
        rw [Nat.pow_zero, Nat.mul_one] at h2
        obtain ⟨e1, e2⟩ := dv_fin _ _ _ _ Hv.out h2
        have hbw : Below w.heap.size w wr := below_only B5 Bg hgr
        refine ⟨_, _, rfl, ?_, ?_, hbw.trans (b7.mono hbw.size)⟩
        · rw [e1] at h1
          obtain ⟨l, f1, f2, f3, f4⟩ := h1
          exact ⟨l, f1.mono (fun _ _ => trivial), f2, f3, f2.len_le (by rw [f3]; exact Nat.lt_of_le_of_lt (Nat.div_le_self _ _) Hla.out)⟩
        · rw [e2] at hr
          obtain ⟨l, f1, f2, f3, f4⟩ := hr.below b7
          exact ⟨l, f1.mono (fun _ _ => trivial), f2, f3, f2.len_le (by rw [f3]; exact Nat.lt_trans (Nat.mod_lt _ Hb0.out) Hlb.out)⟩
      · obtain ⟨t, s, hs, hp'⟩ : ∃ t s, s ≤ 31 ∧ p = 32 * t + s + 1 := ⟨(p - 1) / 32, (p - 1) % 32, by omega, by omega⟩
        subst hp'
        clear h0
        have HDe : Hid (D = b * 2 ^ (32 * t + s)) := HD.out (by omega)
        by_cases hlt : r < D
        · have Hlt := Lib.hid hlt
          clear hlt
          go_wp2_with fail
          refine (rsub_n0 hr.nz.nm hd.nz.nm (by omega) (by omega) Hlt.out).mono ?_
          rintro e w7 ⟨rfl, b7⟩
          have hr7 := hr.below b7
          have hd7 := hd.below b7
          have hown7 := hown.below b7 hgl
          have hgr7 := only_trans hgr (only_of (r := some g) b7)
          have hgl7 := hown7.lt
          clear hr hd hown hgr b7
          go_wp2_with fail
          refine (rhalf_n hd7.nz.nm (by omega)).mono ?_
          rintro e w8 ⟨vh, rfl, hd8, b8⟩
          go_wp2
          go_roundw
          case rel =>
            exact ⟨32 * t + s, r, D / 2, q, int_i64 (by omega), by omega, hr7.below b8, hd8.mono (fun i hi => by omega), dv_half b D _ HDe.out, hown7.below b8 hgl7, Hql.out, HqL.out, Hdv.out.down, Hv.out, by rw [← HDe.out]; exact Hlt.out, only_trans hgr7 (only_of b8)⟩
          case measure => simp [intOf] <;> omega
        · have Hge := Lib.hid (show D ≤ r by omega)
          clear hlt
          go_wp2_with fail
          refine (rsub_n hr.nz.nm hd.nz.nm (by omega) (by omega) Hge.out).mono ?_
          rintro e w7 ⟨vf, rfl, hf7, b7⟩
          have hf7' : Ns w7 (· ≠ g) vf (r - D) k := hf7.mono (fun i hi => by omega)
          have hd7 := hd.below b7
          have hown7 := hown.below b7 hgl
          have hgr7 := only_trans hgr (only_of (r := some g) b7)
          have hgl7 := hown7.lt
          obtain ⟨x, hx⟩ : ∃ x, q[t]? = some x := ⟨_, List.getElem?_eq_getElem (by have := Hql.out; omega)⟩
          have hcell := hown7.cel _ _ hx
          rw [Nat.zero_add] at hcell
          have hfr := hown7.frozen t
          have hxb : x < 4294967296 := HqL.out.at hx
          have hroom := Hdv.out.room hx hs hxb
          have Hx := Lib.hid hx
          have hq1 : (32 * (t : Int) + (s : Int)) / 32 = (t : Int) := by omega
          have hq2 : (32 * (t : Int) + (s : Int)) % 32 = (s : Int) := by omega
          clear hr hd hown hgr b7 hf7 hx
          have HZ : Hid (((x : Int) + 2 ^ s) % 4294967296 = ((x + 2 ^ s : Nat) : Int)) := by
            show _ = _
            have e1 : (2 : Int) ^ s = ((2 ^ s : Nat) : Int) := by simp
            rw [e1]
            generalize 2 ^ s = u at hroom
            omega
          have HW : ∀ z : Int, z = ((x + 2 ^ s : Nat) : Int) → Own 46 (w7.setCell ⟨g, t, none⟩ (.int .u32 z)) g (q.set t (x + 2 ^ s)) := by
            rintro z rfl
            exact hown7.set_ _ _
          have HWl := Lib.hid HW
          clear HW
          go_wp2_with fail
          refine (rhalf_n (hd7.only (only_setCell (only_refl _ _) _ _)).nz.nm (by omega)).mono ?_
          rintro e w8 ⟨vh, rfl, hd8, b8⟩
          have hsz : w7.heap.size ≤ w8.heap.size := by have := b8.size; simpa [World.setCell] using this
          have hown8 := (HWl.out _ HZ.out).below b8 (by simpa [World.setCell] using hgl7)
          have hf8 := (hf7'.only (only_setCell (only_refl _ _) t (.int .u32 (((x : Int) + 2 ^ s) % 4294967296)))).below b8
          have hgr8 := only_trans (only_trans hgr7 (only_setCell (only_refl _ _) t (.int .u32 (((x : Int) + 2 ^ s) % 4294967296)))) (only_of (r := some g) b8)
          have hsi : ∀ i, (w7.setCell ⟨g, t, none⟩ (.int .u32 (((x : Int) + 2 ^ s) % 4294967296))).heap.size ≤ i → w7.heap.size ≤ i := fun i hi => by simpa [World.setCell] using hi
          have hd8' : Ns w8 (· ≠ g) vh (D / 2) (top / 32 + j + 1) := hd8.mono (fun i hi => by have := hsi i hi; omega)
          clear b8 hd8 hd7 hf7' hgr7 hcell hfr
          go_wp2
          go_roundw
          case rel =>
            refine ⟨32 * t + s, r - D, D / 2, q.set t (x + 2 ^ s), int_i64 (by omega), by omega, hf8, hd8', dv_half b D _ HDe.out, hown8, by rw [List.length_set]; exact Hql.out, HqL.out.set _ _ hroom, Hdv.out.set Hx.out, ?_, ?_, hgr8⟩
            · refine dv_yes _ _ _ _ _ (2 ^ (32 * t + s)) _ Hv.out HDe.out Hge.out ?_
              have h1 := val_set q t x (x + 2 ^ s) Hx.out
              rw [Nat.mul_add, K_pow] at h1
              rw [Nat.pow_add]
              omega
            · have h1 := Hr.out
              have h2 := HDe.out
              rw [Nat.pow_succ, ← Nat.mul_assoc] at h1
              omega
          case measure => simp [intOf] <;> omega
theorem rmul_n {w : World} {va vb : Value} {a b k j : Nat} (ha : Nm w va a k) (hb : Nm w vb b j) (hk : k ≤ 1000) (hj : j ≤ 1000) : Calls Tryd.prog 56 #[va, vb] w (NsEnd (a * b) (k + j) w) := by
  have h1 := ha.lt
  have h2 := hb.lt
  obtain ⟨la, ra, rfl, na⟩ := ha
  obtain ⟨lb, rb, rfl, nb⟩ := hb
  exact (rmul_walk _ _ la lb w ra rb (by omega) (by omega)).mono fun e w' h => h.ns _ (mul_lt' h1 h2)
theorem div_n0b {w : World} {va vb : Value} {a b k j : Nat} (ha : Nm w va a k) (hb : Nm w vb b j) (h0 : b = 0) :
    Calls Tryd.prog 50 #[va, vb] w fun e w' => e = .returned (.tuple #[.slice none 0 0, .slice none 0 0, .bool false]) ∧ Below w.heap.size w w' :=
  (div_n0 ha hb h0).mono fun e w' ⟨he, hw⟩ => by
    subst hw
    exact ⟨he, Below.refl _ _⟩
end Go.Proofs.YthcoemkbdllcfaaDoor
