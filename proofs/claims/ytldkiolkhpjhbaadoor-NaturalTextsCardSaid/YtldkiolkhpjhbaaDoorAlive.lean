/-
  The walks of garmentref01.Same and of the laws' own light and alive.
-/
import Derived.Test.YtldkiolkhpjhbaaDoorText
namespace Go.Proofs.YtldkiolkhpjhbaaDoor
open Go.RowKit

set_option maxHeartbeats 1000000 in
theorem same_walk (va vb : Value) (l : List Nat) (w : World) (ha : Rd w (fun _ => True) va l) (hb : Rd w (fun _ => True) vb l) :
    Calls Tryd.prog 15 #[va, vb] w fun e w' => e = .returned (.bool true) ∧ ∃ q, w' = w.drewN q := by
  obtain ⟨A, n, c, rfl, Hn, hnc, hc, HLa, hA⟩ := ha.open_
  obtain ⟨B, m, d, rfl, Hm, hmd, hd, HLb, hB⟩ := hb.open_
  obtain rfl : m = n := by have := Hn.out; have := Hm.out; omega
  have t0 : ((m : Int) != m) = false := by simp
  clear ha hb
  go_enter Tryd.func15, Tryd.ntmps15
  go_wp2
  go_loopw [5] (fun i wr => ∃ k : Nat, k ≤ m ∧ i = .int .i64 k ∧ ∃ q, wr = w.drewN q) (fun i _ => m - (intOf i).toNat)
  case atStart => exact ⟨0, Nat.zero_le _, rfl, 0, rfl⟩
  case round =>
    obtain ⟨k, hk, rfl, q, rfl⟩ := hrel
    by_cases hlt : k < m
    · obtain ⟨x, hx⟩ : ∃ x, l[k]? = some x := ⟨_, List.getElem?_eq_getElem (by have := Hn.out; omega)⟩
      obtain ⟨g, off, rfl, _, hc1⟩ := hA (by have := Hn.out; omega)
      obtain ⟨g', off', rfl, _, hc2⟩ := hB (by have := Hn.out; omega)
      have h1 := hc1 _ _ hx
      have h2 := hc2 _ _ hx
      have hkz : (k : Int) < (m : Int) := by omega
      have hk0 : (0 : Int) ≤ (k : Int) := by omega
      have hbn : ((x : Int) != x) = false := by simp
      clear hc1 hc2 hx
      go_wp2_with fail
      go_quiet (fail)
      go_wp2
      go_roundw
      case rel => exact ⟨k + 1, by omega, by go_num, _, rfl⟩
      case measure => simp [intOf] <;> omega
    · go_wp2
      go_ret
      exact ⟨rfl, q, rfl⟩
/-- Two results of the same value are the same. -/
theorem same_res {w : World} {va vb : Value} {la lb : List Nat} (ha : Rd w (fun _ => True) va la) (hb : Rd w (fun _ => True) vb lb) (na : Num.Nrm la) (nb : Num.Nrm lb) (h : Num.val la = Num.val lb) :
    Calls Tryd.prog 15 #[va, vb] w fun e w' => e = .returned (.bool true) ∧ ∃ q, w' = w.drewN q := by
  have e := Num.Nrm.inj ha.lim hb.lim na nb h
  subst e
  exact same_walk va vb la w ha hb

theorem Rd.lit (W : World) (l : List Nat) (cs : Array Value) (g n : Nat) (hcs : cs = (l.map Lv).toArray) (hn : n = l.length) (hg : g = W.heap.size) (hL : Num.Lim l) (hb : n ≤ 1000) : Rd (W.alloc (.cells cs 42)) (fun _ => True) (.slice (some ⟨g, 0, none⟩) n n) l := by
  subst hcs; subst hg; subst hn
  exact (Own.new W 42 l).rd _ trivial hL (by omega)
theorem below_alloc (W : World) (o : Obj) : Below W.heap.size W (W.alloc o) := (Below.refl _ _).alloc (Nat.le_refl _) _
theorem lim1 (a : Nat) (ha : a < 4294967296) : Num.Lim [a] := Num.Lim.cons ha Num.Lim.nil
theorem lim2 (a b : Nat) (ha : a < 4294967296) (hb : b < 4294967296) : Num.Lim [a, b] := Num.Lim.cons ha (lim1 b hb)
theorem b_alloc {w w' : World} {o : Obj} (h : Below (w.alloc o).heap.size (w.alloc o) w') : Below w.heap.size w w' := (below_alloc w o).trans (h.mono (below_alloc w o).size)
theorem below_q {w w' : World} (h : ∃ q, w' = w.drewN q) : Below w.heap.size w w' := by
  obtain ⟨q, rfl⟩ := h
  exact below_drewN (Below.refl _ _) q
theorem sub_lt_b (va vb : Value) (la lb : List Nat) (w : World) (ha : Rd w (fun _ => True) va la) (hb : Rd w (fun _ => True) vb lb) (hlt : Num.val la < Num.val lb) :
    Calls Tryd.prog 22 #[va, vb] w fun e w' => e = .returned (.tuple #[.slice none 0 0, .bool false]) ∧ Below w.heap.size w w' := (sub_lt va vb la lb w ha hb hlt).mono fun _ _ ⟨h, hq⟩ => ⟨h, below_q hq⟩
theorem cmp_b (va vb : Value) (la lb : List Nat) (w : World) (ha : Rd w (fun _ => True) va la) (hb : Rd w (fun _ => True) vb lb) (c : Int) (hc : cmpI (Num.val la) (Num.val lb) = c) :
    Calls Tryd.prog 20 #[va, vb] w fun e w' => e = .returned (.int .i64 c) ∧ Below w.heap.size w w' := (cmp_walk va vb la lb w ha hb).mono fun _ _ ⟨h, hq⟩ => ⟨by rw [h, hc], below_q hq⟩
theorem same_b {w : World} {va vb : Value} {la lb : List Nat} (ha : Rd w (fun _ => True) va la) (hb : Rd w (fun _ => True) vb lb) (na : Num.Nrm la) (nb : Num.Nrm lb) (h : Num.val la = Num.val lb) :
    Calls Tryd.prog 15 #[va, vb] w fun e w' => e = .returned (.bool true) ∧ Below w.heap.size w w' := (same_res ha hb na nb h).mono fun _ _ ⟨h, hq⟩ => ⟨h, below_q hq⟩
theorem nrm1 (a : Nat) (h : a ≠ 0) : Num.Nrm [a] := by simp [Num.Nrm, h]
theorem nrm2 (a b : Nat) (h : b ≠ 0) : Num.Nrm [a, b] := by simp [Num.Nrm, h]
theorem root99 (s : Nat) (h1 : s * s ≤ 99) (h2 : 99 < (s + 1) * (s + 1)) : s = 9 := by
  rcases Nat.lt_or_ge s 9 with h | h
  · have := Nat.mul_le_mul (show s + 1 ≤ 9 by omega) (show s + 1 ≤ 9 by omega); omega
  · rcases Nat.lt_or_ge 9 s with h3 | h3
    · have := Nat.mul_le_mul (show 10 ≤ s by omega) (show 10 ≤ s by omega); omega
    · omega

set_option maxHeartbeats 4000000 in
theorem alive_walk (w : World) (ht : Tab w) : Calls Tryd.prog 14 #[] w fun e w' => e = .returned (.bool true) ∧ Below w.heap.size w w' := by
  have HT := Lib.hid ht
  clear ht
  have hdec : Lib.decDigits 4294967296 = [52, 50, 57, 52, 57, 54, 55, 50, 57, 54] := by
    have h := Txt.dec_pad 4 (by omega) 9 294967296 (by omega)
    rw [show 4 * 10 ^ 9 + 294967296 = 4294967296 from rfl, Lib.decDigits_one (i := 4) (by omega)] at h
    rw [h]
    decide
  have Hdec := Lib.hid hdec
  clear hdec
  go_enter Tryd.func14, Tryd.ntmps14
  go_wp2_with fail
  refine (divmod_pos _ _ [17] [5, 0] _ ((Rd.lit w [17] _ _ 1 rfl rfl rfl (lim1 _ (by omega)) (by omega)).below (below_alloc _ _)) (Rd.lit _ [5, 0] _ _ 2 rfl rfl (by simp) (lim2 _ _ (by omega) (by omega)) (by omega)) (by simp) (by decide)).mono ?_
  rintro e w1 ⟨v1, v2, rfl, ⟨l1, hr1, hn1, hv1, hb1⟩, ⟨l2, hr2, hn2, hv2, _⟩⟩
  have B1 : Below w.heap.size w w1 := ((below_alloc w _).trans ((below_alloc _ _).mono (below_alloc w _).size)).trans (hb1.mono (by simp; omega))
  have Hv1 := Lib.hid hv1
  have Hv2 := Lib.hid hv2
  clear hb1 hv1 hv2
  go_wp2_with fail
  refine (sub_lt_b _ _ [3] [5] _ ((Rd.lit _ [3] _ _ 1 rfl rfl (by simp) (lim1 _ (by omega)) (by omega)).below (below_alloc _ _)) (Rd.lit _ [5] _ _ 1 rfl rfl (by simp) (lim1 _ (by omega)) (by omega)) (by decide)).mono ?_
  rintro e w2 ⟨rfl, b2⟩
  have b2 := b_alloc (b_alloc b2)
  have B2 := B1.trans (b2.mono B1.size)
  have hr1 := hr1.below b2
  have hr2 := hr2.below b2
  clear b2 B1
  go_wp2_with fail
  refine (parse_ok ⟨#[52, 50, 57, 52, 57, 54, 55, 50, 57, 54]⟩ w2 (by decide) (by decide)).mono ?_
  rintro e w3 ⟨v3, rfl, l3, hr3, hn3, hv3, b3⟩
  have B3 := B2.trans (b3.mono B2.size)
  have hr1 := hr1.below b3
  have hr2 := hr2.below b3
  have Hv3 : Hid (Num.val l3 = 4294967296) := by show _ = _; rw [hv3]; decide
  clear hv3 b3 B2
  go_wp2_with fail
  refine (same_b (hr3.below (below_alloc _ _)) (Rd.lit _ [0, 1] _ _ 2 rfl rfl (by simp) (lim2 _ _ (by omega) (by omega)) (by omega)) hn3 (nrm2 0 1 (by omega)) (by rw [Hv3.out]; decide)).mono ?_
  rintro e w4 ⟨rfl, b4⟩
  have b4 := b_alloc b4
  have B4 := B3.trans (b4.mono B3.size)
  have hr1 := hr1.below b4
  have hr2 := hr2.below b4
  clear b4 B3
  go_wp2_with fail
  refine (same_b (hr1.below (below_alloc _ _)) (Rd.lit _ [3] _ _ 1 rfl rfl (by simp) (lim1 _ (by omega)) (by omega)) hn1 (nrm1 3 (by omega)) (by rw [Hv1.out]; decide)).mono ?_
  rintro e w5 ⟨rfl, b5⟩
  have b5 := b_alloc b5
  have B5 := B4.trans (b5.mono B4.size)
  have hr2 := hr2.below b5
  clear b5 B4
  go_wp2_with fail
  refine (same_b (hr2.below (below_alloc _ _)) (Rd.lit _ [2] _ _ 1 rfl rfl (by simp) (lim1 _ (by omega)) (by omega)) hn2 (nrm1 2 (by omega)) (by rw [Hv2.out]; decide)).mono ?_
  rintro e w6 ⟨rfl, b6⟩
  have b6 := b_alloc b6
  have B6 := B5.trans (b6.mono B5.size)
  clear b6 B5
  go_wp2_with fail
  refine (mul_walk _ _ [4294967295] [4294967295] _ ((Rd.lit _ [4294967295] _ _ 1 rfl rfl (by simp) (lim1 _ (by omega)) (by omega)).below (below_alloc _ _)) (Rd.lit _ [4294967295] _ _ 1 rfl rfl (by simp) (lim1 _ (by omega)) (by omega)) (by simp) (by simp)).mono ?_
  rintro e w7 ⟨v7, rfl, l7, hr7, hn7, hv7, b7⟩
  have b7 := b_alloc (b_alloc b7)
  have B7 := B6.trans (b7.mono B6.size)
  have Hv7 := Lib.hid hv7
  clear b7 B6 hv7
  go_wp2_with fail
  refine (same_b (hr7.below (below_alloc _ _)) (Rd.lit _ [1, 4294967294] _ _ 2 rfl rfl (by simp) (lim2 _ _ (by omega) (by omega)) (by omega)) hn7 (nrm2 1 4294967294 (by omega)) (by rw [Hv7.out]; decide)).mono ?_
  rintro e w8 ⟨rfl, b8⟩
  have b8 := b_alloc b8
  have B8 := B7.trans (b8.mono B7.size)
  clear b8 B7
  go_wp2_with fail
  refine (text_walk _ [0, 1] _ (Rd.lit _ [0, 1] _ _ 2 rfl rfl (by simp) (lim2 _ _ (by omega) (by omega)) (by omega)) (by simp) (HT.out.below (B8.trans ((below_alloc _ _).mono B8.size)))).mono ?_
  rintro e w9 ⟨he9, b9⟩
  have e9 : Num.val [0, 1] = 4294967296 := by decide
  rw [e9, Hdec.out] at he9
  subst he9
  have b9 := b_alloc b9
  have B9 := B8.trans (b9.mono B8.size)
  clear b9 B8 e9
  go_wp2_with fail
  refine (sqrt_walk _ [99] _ (Rd.lit _ [99] _ _ 1 rfl rfl (by simp) (lim1 _ (by omega)) (by omega)) (by simp)).mono ?_
  rintro e w10 ⟨v10, s10, rfl, ⟨l10, hr10, hn10, hv10, b10⟩, hs1, hs2⟩
  have b10 := b_alloc b10
  have B10 := B9.trans (b10.mono B9.size)
  have Hv10 : Hid (Num.val l10 = 9) := by show _ = _; rw [hv10]; exact root99 _ (by simpa [Num.val] using hs1) (by simpa [Num.val] using hs2)
  clear b10 B9 hv10 hs1 hs2
  go_wp2_with fail
  refine (same_b (hr10.below (below_alloc _ _)) (Rd.lit _ [9] _ _ 1 rfl rfl (by simp) (lim1 _ (by omega)) (by omega)) hn10 (nrm1 9 (by omega)) (by rw [Hv10.out]; decide)).mono ?_
  rintro e w11 ⟨rfl, b11⟩
  have b11 := b_alloc b11
  have B11 := B10.trans (b11.mono B10.size)
  clear b11 B10
  go_wp2_with fail
  refine (gcd_walk _ _ [12] [18] _ ((Rd.lit _ [12] _ _ 1 rfl rfl (by simp) (lim1 _ (by omega)) (by omega)).below (below_alloc _ _)) (Rd.lit _ [18] _ _ 1 rfl rfl (by simp) (lim1 _ (by omega)) (by omega)) (by simp) (by simp)).mono ?_
  rintro e w12 ⟨v12, rfl, l12, hr12, hn12, hv12, b12⟩
  have b12 := b_alloc (b_alloc b12)
  have B12 := B11.trans (b12.mono B11.size)
  have Hv12 := Lib.hid hv12
  clear b12 B11 hv12
  go_wp2_with fail
  refine (same_b (hr12.below (below_alloc _ _)) (Rd.lit _ [6] _ _ 1 rfl rfl (by simp) (lim1 _ (by omega)) (by omega)) hn12 (nrm1 6 (by omega)) (by rw [Hv12.out]; decide)).mono ?_
  rintro e w13 ⟨rfl, b13⟩
  have b13 := b_alloc b13
  have B13 := B12.trans (b13.mono B12.size)
  clear b13 B12
  go_wp2_with fail
  refine (cmp_b _ _ [2] [1, 1] _ ((Rd.lit _ [2] _ _ 1 rfl rfl (by simp) (lim1 _ (by omega)) (by omega)).below (below_alloc _ _)) (Rd.lit _ [1, 1] _ _ 2 rfl rfl (by simp) (lim2 _ _ (by omega) (by omega)) (by omega)) (-1) (by decide)).mono ?_
  rintro e w14 ⟨rfl, b14⟩
  have b14 := b_alloc (b_alloc b14)
  have B14 := B13.trans (b14.mono B13.size)
  clear b14 B13
  go_wp2
  go_ret
  exact ⟨rfl, B14⟩
end Go.Proofs.YtldkiolkhpjhbaaDoor
