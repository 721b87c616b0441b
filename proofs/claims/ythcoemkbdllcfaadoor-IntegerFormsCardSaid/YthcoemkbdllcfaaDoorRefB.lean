/-
  The walks of garmentref01.Cmp, Add and Sub.
-/
import Derived.Test.YthcoemkbdllcfaaDoorRefA
namespace Go.Proofs.YthcoemkbdllcfaaDoor
open Go.RowKit

theorem drop_lm (l : List Nat) (k : Nat) : Num.val (l.drop k) = lm l k + Num.K * Num.val (l.drop (k + 1)) := by
  cases h : l[k]? with
  | none =>
    have hk : l.length ≤ k := by simpa using h
    rw [lm_out hk, List.drop_of_length_le hk, List.drop_of_length_le (by omega)]
    simp [Num.val]
  | some x => rw [lm_at h, drop_cons h, Num.val_cons]
theorem val_td (l : List Nat) (k : Nat) : Num.val l = Num.val (l.take k) + Num.K ^ k * Num.val (l.drop k) := by
  rcases Nat.lt_or_ge l.length k with h | h
  · rw [List.take_of_length_le (by omega), List.drop_of_length_le (by omega)]
    simp [Num.val]
  · exact Num.val_split l k h
theorem take_lt (l : List Nat) (hL : Num.Lim l) (k : Nat) : Num.val (l.take k) < Num.K ^ k :=
  Nat.lt_of_lt_of_le (Num.val_lt _ (hL.take k)) (Nat.pow_le_pow_right Num.K_pos (by rw [List.length_take]; omega))
theorem lm_less {la lb : List Nat} {k : Nat} (hL : Num.Lim la) (ht : Num.val (la.drop (k + 1)) = Num.val (lb.drop (k + 1))) (h : lm la k < lm lb k) : Num.val la < Num.val lb := by
  rw [val_td la k, val_td lb k, drop_lm la k, drop_lm lb k, ht]
  exact cmp_at _ _ _ _ _ _ (take_lt la hL k) h
theorem int_i64 {a b : Int} (h : a = b) : Value.int .i64 a = .int .i64 b := by rw [h]

set_option maxRecDepth 4000 in
set_option maxHeartbeats 1000000 in
theorem rcmp_walk (va vb : Value) (la lb : List Nat) (w : World) (ha : Rd w (fun _ => True) va la) (hb : Rd w (fun _ => True) vb lb) (hla : la.length ≤ 100000) (hlb : lb.length ≤ 100000) :
    Calls Tryd.prog 45 #[va, vb] w fun e w' => e = .returned (.int .i64 (cmpI (Num.val la) (Num.val lb))) ∧ w = w' := by
  obtain ⟨A, n, c, rfl, Hn, hnc, hc, HLa, hA⟩ := ha.open_
  obtain ⟨B, m, d, rfl, Hm, hmd, hd, HLb, hB⟩ := hb.open_
  have hn : n ≤ 100000 := by have := Hn.out; omega
  have hm : m ≤ 100000 := by have := Hm.out; omega
  clear ha hb hla hlb
  go_enter Tryd.func45, Tryd.ntmps45
  go_wp2
  go_loop [5] (fun i => ∃ k : Nat, k ≤ 100000 ∧ i = .int .i64 ((k : Int) - 1) ∧ Hid (Num.val (la.drop k) = Num.val (lb.drop k))) (fun i => (intOf i + 1).toNat)
  case atStart => exact ⟨max n m, by omega, int_i64 (by omega), by show _ = _; rw [List.drop_of_length_le (by have := Hn.out; omega), List.drop_of_length_le (by have := Hm.out; omega)]⟩
  case round =>
    obtain ⟨k, hk, rfl, Ht⟩ := hrel
    by_cases h0 : k = 0
    · have hk0 : ¬ 0 ≤ (k : Int) - 1 := by omega
      have Hk := Lib.hid h0
      clear h0
      go_wp2
      go_ret
      have h1 := Ht.out
      rw [Hk.out, List.drop_zero, List.drop_zero] at h1
      rw [cmpI_eq h1]
      exact ⟨rfl, rfl⟩
    · obtain ⟨k, rfl⟩ : ∃ j, k = j + 1 := ⟨k - 1, by omega⟩
      have hk0 : 0 ≤ ((k + 1 : Nat) : Int) - 1 := by omega
      clear h0
      have hxb := lm_lt HLa.out k
      have hyb := lm_lt HLb.out k
      obtain ⟨x, hx⟩ : ∃ x, x = lm la k := ⟨_, rfl⟩
      obtain ⟨y, hy⟩ : ∃ y, y = lm lb k := ⟨_, rfl⟩
      have L1 := Lib.hid (fun w => limb_walk A n c k la w Hn.out (by omega) (by omega) HLa.out)
      have L2 := Lib.hid (fun w => limb_walk B m d k lb w Hm.out (by omega) (by omega) HLb.out)
      rw [← hx] at hxb L1
      rw [← hy] at hyb L2
      have Hx := Lib.hid hx
      have Hy := Lib.hid hy
      clear hx hy
      rcases Nat.lt_trichotomy x y with hlt | heq | hgt
      · have hz : (x : Int) < (y : Int) := by omega
        go_wp2_with fail
        refine (L1.out _ hA).mono ?_
        rintro e w' ⟨rfl, rfl⟩
        go_wp2_with fail
        refine (L2.out _ hB).mono ?_
        rintro e w' ⟨rfl, rfl⟩
        go_wp2
        go_ret
        rw [cmpI_lt (lm_less HLa.out Ht.out (by rw [← Hx.out, ← Hy.out]; exact hlt))]
        exact ⟨rfl, rfl⟩
      · have hz1 : ¬ (x : Int) < (y : Int) := by omega
        have hz2 : ¬ (y : Int) < (x : Int) := by omega
        have Heq := Lib.hid heq
        clear heq
        go_wp2_with fail
        refine (L1.out _ hA).mono ?_
        rintro e w' ⟨rfl, rfl⟩
        go_wp2_with fail
        refine (L2.out _ hB).mono ?_
        rintro e w' ⟨rfl, rfl⟩
        go_wp2_with fail
        refine (L1.out _ hA).mono ?_
        rintro e w' ⟨rfl, rfl⟩
        go_wp2_with fail
        refine (L2.out _ hB).mono ?_
        rintro e w' ⟨rfl, rfl⟩
        go_wp2
        go_round
        case rel => exact ⟨k, by omega, by go_num, by show _ = _; rw [drop_lm la k, drop_lm lb k, Ht.out, ← Hx.out, ← Hy.out, Heq.out]⟩
        case measure => simp [intOf] <;> omega
      · have hz1 : ¬ (x : Int) < (y : Int) := by omega
        have hz2 : (y : Int) < (x : Int) := by omega
        go_wp2_with fail
        refine (L1.out _ hA).mono ?_
        rintro e w' ⟨rfl, rfl⟩
        go_wp2_with fail
        refine (L2.out _ hB).mono ?_
        rintro e w' ⟨rfl, rfl⟩
        go_wp2_with fail
        refine (L1.out _ hA).mono ?_
        rintro e w' ⟨rfl, rfl⟩
        go_wp2_with fail
        refine (L2.out _ hB).mono ?_
        rintro e w' ⟨rfl, rfl⟩
        go_wp2
        go_ret
        rw [cmpI_gt (lm_less HLb.out Ht.out.symm (by rw [← Hx.out, ← Hy.out]; exact hgt))]
        exact ⟨rfl, rfl⟩

/-- The loop of Add. -/
def RaInv (n m : Nat) (la lb : List Nat) (w : World) (gk : Nat) (y cy i : Value) (wr : World) : Prop :=
  ∃ (k cr : Nat) (l : List Nat), gk = max n m + 2 - k ∧ k ≤ max n m + 1 ∧ i = .int .i64 (k : Int) ∧ cy = .int .u64 (cr : Int) ∧ cr ≤ 1 ∧ (k = max n m + 1 → cr = 0) ∧ Row wr w.heap.size y l ∧ Num.Lim l ∧ l.length = k ∧
    Num.val l + Num.K ^ k * cr = Num.val (la.take k) + Num.val (lb.take k) ∧ Below w.heap.size w wr
theorem ra_num (R P K cr L B x y t d c' : Nat) (hv : R + P * cr = L + B) (ht : t = x + y + cr) (hd : d + K * c' = t) : R + P * d + P * K * c' = L + P * x + (B + P * y) := by
  subst ht
  have h := congrArg (P * ·) hd
  simp only [Nat.mul_add, ← Nat.mul_assoc] at h ⊢
  omega

set_option maxRecDepth 4000 in
set_option maxHeartbeats 2000000 in
theorem radd_walk (va vb : Value) (la lb : List Nat) (w : World) (ha : Rd w (fun _ => True) va la) (hb : Rd w (fun _ => True) vb lb) (hla : la.length ≤ 10000) (hlb : lb.length ≤ 10000) :
    Calls Tryd.prog 48 #[va, vb] w (NumNew (Num.val la + Num.val lb) w) := by
  obtain ⟨i0, hi, hz0, hz1, hz2⟩ := info_parts info_u32
  obtain ⟨A, n, c, rfl, Hn, hnc, hc, HLa, hA⟩ := ha.open_
  obtain ⟨B, m, d, rfl, Hm, hmd, hd, HLb, hB⟩ := hb.open_
  have hn : n ≤ 10000 := by have := Hn.out; omega
  have hm : m ≤ 10000 := by have := Hm.out; omega
  have HA := Lib.hid hA
  have HB := Lib.hid hB
  clear ha hb hla hlb hA hB
  go_enter Tryd.func48, Tryd.ntmps48
  go_wp2
  go_loopg [5, 6, 7] (max n m + 2) (fun gk y cy i wr => RaInv n m la lb w gk y cy i wr)
  case atStart => exact ⟨0, 0, [], rfl, by omega, rfl, rfl, by omega, by omega, Row.nil _ _, Num.Lim.nil, rfl, by simp [Num.val], Below.refl _ _⟩
  case round =>
    obtain ⟨k, cr, l, hgk, hk, rfl, rfl, hcr, hlast, hrow, hL, hlk, hv, hbl⟩ := hrel
    have Hgk := Lib.hid hgk
    have Hlast := Lib.hid hlast
    have HL := Lib.hid hL
    have Hlk := Lib.hid hlk
    have Hv := Lib.hid hv
    have hbs := hbl.size
    clear hgk hlast hL hlk hv
    by_cases hgo : k < max n m ∨ 0 < cr
    · have hkk : k ≤ max n m := by
        rcases Nat.lt_or_ge (max n m) k with h | h
        · have := Hlast.out (by omega); omega
        · exact h
      have hxb := lm_lt HLa.out k
      have hyb := lm_lt HLb.out k
      obtain ⟨x, hx⟩ : ∃ x, x = lm la k := ⟨_, rfl⟩
      obtain ⟨y, hy⟩ : ∃ y, y = lm lb k := ⟨_, rfl⟩
      have L1 := Lib.hid (fun w => limb_walk A n c k la w Hn.out (by omega) (by omega) HLa.out)
      have L2 := Lib.hid (fun w => limb_walk B m d k lb w Hm.out (by omega) (by omega) HLb.out)
      rw [← hx] at hxb L1
      rw [← hy] at hyb L2
      have Hx := Lib.hid hx
      have Hy := Lib.hid hy
      have hA1 := HA.out.below' hbl
      have hB1 := HB.out.below' hbl
      have hrow1 : wr.ownsRow w.heap.size 46 1 _ l.length (l.map Lv) := hrow
      have hlen : l.length ≤ 20000 := by have := Hlk.out; omega
      clear hx hy
      have htest : (decide ((k : Int) < max (n : Int) (m : Int)) || decide (0 < (cr : Int))) = true := by simp; omega
      by_cases hd1 : (k : Int) < max (n : Int) (m : Int)
      all_goals
        go_wp2_with fail
        refine (L1.out _ hA1).mono ?_
        rintro e w' ⟨rfl, rfl⟩
        go_wp2_with fail
        refine (L2.out _ hB1).mono ?_
        rintro e w' ⟨rfl, rfl⟩
        go_wp2_with (at_builtin; refine wpList_append_u32 rfl (.tmp 31) (.tmp 35) 23 rfl w.heap.size 46 i0 Tryd.underlying23 hi hz0 hz1 hz2 _ l rfl (hrow1.alloc _) _ 1 1 [(x + y + cr) % 4294967296] rfl rfl (fun _ => True) (lit_cel wr ((x + y + cr) % 4294967296) _ (by omega)) (by omega) (by simp; omega) ?_; intro v' w' hrow' hg')
        go_roundg (max n m + 2 - (k + 1))
        case measure => have := Hgk.out; omega
        case rel =>
          have hg2 := only_trans (World.grownBy_alloc wr _ _) hg'
          refine ⟨k + 1, (x + y + cr) / 4294967296, l ++ [(x + y + cr) % 4294967296], rfl, by omega, by go_num, int_u64 (by omega), by omega, ?_, hrow', HL.out.append (lim1 _ (Nat.mod_lt _ (by omega))), by simp; exact Hlk.out, ?_, hbl.grown hg2 hbs (fun b hb => (hrow.lt b hb).1)⟩
          · intro h
            have e1 : x = 0 := by rw [Hx.out]; exact lm_out (by have := Hn.out; omega)
            have e2 : y = 0 := by rw [Hy.out]; exact lm_out (by have := Hm.out; omega)
            omega
          · rw [Num.val_snoc, Hlk.out, take_lm la k, take_lm lb k, ← Hx.out, ← Hy.out, Nat.pow_succ]
            exact ra_num _ _ _ _ _ _ _ _ _ _ _ Hv.out rfl (Nat.mod_add_div _ _)
    · have hk1 : ¬ (k : Int) < max (n : Int) (m : Int) := by omega
      have hc0 : cr = 0 := by omega
      subst hc0
      have hkn : n ≤ k ∧ m ≤ k := by omega
      have hrd : Rd wr (fun _ => True) _ l := (hrow.rd HL.out).mono (fun _ _ => trivial)
      go_wp2_with fail
      refine (rnorm_walk _ l wr hrd (by have := Hlk.out; omega)).mono ?_
      rintro e w1 ⟨v, rfl, l1, hr1, hn1, hv1, hb1⟩
      go_wp2
      go_ret
      refine ⟨v, rfl, l1, hr1.mono (fun _ h => Nat.le_trans hbs h), hn1, ?_, hbl.trans (hb1.mono hbs)⟩
      have h1 := Hv.out
      rw [Nat.mul_zero, Nat.add_zero, List.take_of_length_le (by have := Hn.out; omega), List.take_of_length_le (by have := Hm.out; omega)] at h1
      rw [hv1, h1]

/-- The loop of Sub. -/
def RsInv (n m : Nat) (la lb : List Nat) (w : World) (gk : Nat) (y cy i : Value) (wr : World) : Prop :=
  ∃ (k br : Nat) (l : List Nat), gk = max n m - k ∧ k ≤ max n m ∧ i = .int .i64 (k : Int) ∧ cy = .int .u64 (br : Int) ∧ br ≤ 1 ∧ Row wr w.heap.size y l ∧ Num.Lim l ∧ l.length = k ∧
    Num.val l + Num.val (lb.take k) = Num.val (la.take k) + Num.K ^ k * br ∧ Below w.heap.size w wr

set_option maxRecDepth 4000 in
set_option maxHeartbeats 2000000 in
theorem rsub_lt (va vb : Value) (la lb : List Nat) (w : World) (ha : Rd w (fun _ => True) va la) (hb : Rd w (fun _ => True) vb lb) (hla : la.length ≤ 10000) (hlb : lb.length ≤ 10000) (hlt : Num.val la < Num.val lb) :
    Calls Tryd.prog 49 #[va, vb] w fun e w' => e = .returned (.tuple #[.slice none 0 0, .bool false]) ∧ w = w' := by
  have Hc := Lib.hid (cmpI_lt hlt)
  go_enter Tryd.func49, Tryd.ntmps49
  go_wp2_with fail
  refine (rcmp_walk va vb la lb _ ha hb (by omega) (by omega)).mono ?_
  rintro e w' ⟨he, rfl⟩
  rw [Hc.out] at he
  subst he
  go_wp2
  go_ret2
  exact ⟨rfl, rfl⟩
/-- Sub returns the number and true. -/
def SubNew (m : Nat) (w : World) (e : Ending) (w' : World) : Prop := ∃ v, e = .returned (.tuple #[v, .bool true]) ∧ ∃ l, Rd w' (fun g => w.heap.size ≤ g) v l ∧ Num.Nrm l ∧ Num.val l = m ∧ Below w.heap.size w w'
set_option maxRecDepth 4000 in
set_option maxHeartbeats 2000000 in
theorem rsub_ge (va vb : Value) (la lb : List Nat) (w : World) (ha : Rd w (fun _ => True) va la) (hb : Rd w (fun _ => True) vb lb) (hla : la.length ≤ 10000) (hlb : lb.length ≤ 10000) (hge : Num.val lb ≤ Num.val la) :
    Calls Tryd.prog 49 #[va, vb] w (SubNew (Num.val la - Num.val lb) w) := by
  have Hge := Lib.hid hge
  obtain ⟨ci, hci0, hci⟩ : ∃ ci : Int, 0 ≤ ci ∧ cmpI (Num.val la) (Num.val lb) = ci := by
    rcases Nat.lt_or_ge (Num.val lb) (Num.val la) with h | h
    · exact ⟨_, by rw [cmpI_gt h]; omega, rfl⟩
    · exact ⟨_, by rw [cmpI_eq (by omega)]; omega, rfl⟩
  have Hci := Lib.hid hci
  have ha0 := ha
  have hb0 := hb
  obtain ⟨i0, hi, hz0, hz1, hz2⟩ := info_parts info_u32
  obtain ⟨A, n, c, rfl, Hn, hnc, hc, HLa, hA⟩ := ha.open_
  obtain ⟨B, m, d, rfl, Hm, hmd, hd, HLb, hB⟩ := hb.open_
  have hn : n ≤ 10000 := by have := Hn.out; omega
  have hm : m ≤ 10000 := by have := Hm.out; omega
  have HA := Lib.hid hA
  have HB := Lib.hid hB
  have Ha0 := Lib.hid ha0
  have Hb0 := Lib.hid hb0
  clear ha hb hla hlb hA hB hge hci ha0 hb0
  go_enter Tryd.func49, Tryd.ntmps49
  go_wp2_with fail
  refine (rcmp_walk _ _ la lb _ Ha0.out Hb0.out (by have := Hn.out; omega) (by have := Hm.out; omega)).mono ?_
  rintro e w' ⟨he, rfl⟩
  rw [Hci.out] at he
  subst he
  go_wp2
  go_loopg [6, 7, 8] (max n m) (fun gk y cy i wr => RsInv n m la lb w gk y cy i wr)
  case atStart => exact ⟨0, 0, [], rfl, by omega, rfl, rfl, by omega, Row.nil _ _, Num.Lim.nil, rfl, by simp [Num.val], Below.refl _ _⟩
  case round =>
    obtain ⟨k, br, l, hgk, hk, rfl, rfl, hbr, hrow, hL, hlk, hv, hbl⟩ := hrel
    have Hgk := Lib.hid hgk
    have HL := Lib.hid hL
    have Hlk := Lib.hid hlk
    have Hv := Lib.hid hv
    have hbs := hbl.size
    clear hgk hL hlk hv
    by_cases hgo : k < max n m
    · have hxb := lm_lt HLa.out k
      have hyb := lm_lt HLb.out k
      obtain ⟨x, hx⟩ : ∃ x, x = lm la k := ⟨_, rfl⟩
      obtain ⟨y, hy⟩ : ∃ y, y = lm lb k := ⟨_, rfl⟩
      have L1 := Lib.hid (fun w => limb_walk A n c k la w Hn.out (by omega) (by omega) HLa.out)
      have L2 := Lib.hid (fun w => limb_walk B m d k lb w Hm.out (by omega) (by omega) HLb.out)
      rw [← hx] at hxb L1
      rw [← hy] at hyb L2
      have Hx := Lib.hid hx
      have Hy := Lib.hid hy
      have hA1 := HA.out.below' hbl
      have hB1 := HB.out.below' hbl
      have hrow1 : wr.ownsRow w.heap.size 46 1 _ l.length (l.map Lv) := hrow
      have hlen : l.length ≤ 20000 := by have := Hlk.out; omega
      clear hx hy
      have hd1 : (k : Int) < max (n : Int) (m : Int) := by omega
      go_wp2_with fail
      refine (L1.out _ hA1).mono ?_
      rintro e w' ⟨rfl, rfl⟩
      go_wp2_with fail
      refine (L2.out _ hB1).mono ?_
      rintro e w' ⟨rfl, rfl⟩
      go_wp2_with (at_builtin; refine wpList_append_u32 rfl (.tmp 33) (.tmp 37) 23 rfl w.heap.size 46 i0 Tryd.underlying23 hi hz0 hz1 hz2 _ l rfl (hrow1.alloc _) _ 1 1 [(4294967296 + x - y - br) % 4294967296] rfl rfl (fun _ => True) (lit_cel wr ((4294967296 + x - y - br) % 4294967296) _ (by omega)) (by omega) (by simp; omega) ?_; intro v' w' hrow' hg')
      go_roundg (max n m - (k + 1))
      case measure => have := Hgk.out; omega
      case rel =>
        have hg2 := only_trans (World.grownBy_alloc wr _ _) hg'
        refine ⟨k + 1, 1 - (4294967296 + x - y - br) / 4294967296, l ++ [(4294967296 + x - y - br) % 4294967296], rfl, by omega, by go_num, int_u64 (by omega), by omega, hrow', HL.out.append (lim1 _ (Nat.mod_lt _ (by omega))), by simp; exact Hlk.out, ?_, hbl.grown hg2 hbs (fun b hb => (hrow.lt b hb).1)⟩
        rw [Num.val_snoc, Hlk.out, take_lm la k, take_lm lb k, ← Hx.out, ← Hy.out, Nat.pow_succ]
        exact sub_num _ _ _ _ _ _ _ _ _ _ Hv.out (by rw [Num.K_eq]; omega)
    · have hk1 : ¬ (k : Int) < max (n : Int) (m : Int) := by omega
      have hkn : n ≤ k ∧ m ≤ k := by omega
      have hrd : Rd wr (fun _ => True) _ l := (hrow.rd HL.out).mono (fun _ _ => trivial)
      go_wp2_with fail
      refine (rnorm_walk _ l wr hrd (by have := Hlk.out; omega)).mono ?_
      rintro e w1 ⟨v, rfl, l1, hr1, hn1, hv1, hb1⟩
      go_wp2
      go_ret2
      refine ⟨v, rfl, l1, hr1.mono (fun _ h => Nat.le_trans hbs h), hn1, ?_, hbl.trans (hb1.mono hbs)⟩
      have h1 := Hv.out
      rw [List.take_of_length_le (l := la) (by have := Hn.out; omega), List.take_of_length_le (l := lb) (by have := Hm.out; omega)] at h1
      have h2 := Num.val_lt l HL.out
      rw [Hlk.out] at h2
      rw [hv1]
      exact no_borrow _ _ _ _ _ h1 Hge.out h2
end Go.Proofs.YthcoemkbdllcfaaDoor
