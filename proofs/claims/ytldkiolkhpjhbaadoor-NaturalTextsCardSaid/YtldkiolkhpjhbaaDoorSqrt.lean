/-
  The walks of natural.powerAboveRoot and Sqrt.
-/
import Derived.Test.YtldkiolkhpjhbaaDoorGcd
import Derived.Test.YtldkiolkhpjhbaaDoorAdd
namespace Go.Proofs.YtldkiolkhpjhbaaDoor
open Go.RowKit

theorem len32_walk (x s : Nat) (w : World) (hx : x < 4294967296) (hs : s = Lib.bitLen x) :
    Calls Tryd.prog 66 #[.int .u32 (x : Int)] w fun e w' => e = .returned (.int .i64 (s : Int)) ∧ w = w' := by
  refine (Tryd.bits_Len32 (x : Int) w (by omega) (by omega)).mono ?_
  rintro e w' ⟨rfl, rfl⟩
  refine ⟨?_, rfl⟩
  rw [hs, Int.toNat_natCast]

/-- A power of two above the root. -/
def PowEnd (a : Nat) (k : Nat) (w : World) (e : Ending) (w' : World) : Prop := ∃ v r, e = .returned v ∧ New w w' v r ∧ Num.Lim r ∧ Num.Nrm r ∧ a < Num.val r * Num.val r ∧ r.length ≤ k + 1

theorem pow_bits (l : List Nat) (k x : Nat) (hlen : l.length = k + 1) (hL : Num.Lim l) (hx : l[k]? = some x) : Num.val l < 2 ^ (32 * k + Lib.bitLen x) := by
  have e := val_take_succ l k x hx
  rw [List.take_of_length_le (by omega)] at e
  have hl := Num.val_lt (l.take k) (hL.take k)
  rw [List.length_take, Nat.min_eq_left (by omega)] at hl
  have h1 := Long.bit_hi x (by have := hL.at hx; rw [Num.K_eq] at this; omega)
  have hK : Num.K ^ k = 2 ^ (32 * k) := by rw [Nat.pow_mul]; rfl
  have h2 := Nat.mul_le_mul_left (Num.K ^ k) (show x + 1 ≤ 2 ^ Lib.bitLen x from h1)
  rw [Nat.mul_add, Nat.mul_one] at h2
  rw [Nat.pow_add, ← hK]
  omega

theorem Own.cell0 {t : TypeId} {w : World} {g : Nat} {l : List Nat} (h : Own t w g l) (j x : Nat) (hx : l[j]? = some x) : w.cell? ⟨g, j, none⟩ = some (.int .u32 (x : Int)) := by
  have := h.cel j x hx
  rwa [Nat.zero_add] at this
theorem pow_small (n : Nat) (h : n < 32) : (2 : Int) ^ n % 4294967296 = ((2 ^ n : Nat) : Int) := by
  have h1 : 2 ^ n < 4294967296 := Nat.lt_of_lt_of_le (Nat.pow_lt_pow_right (by omega) h) (Nat.le_refl (2 ^ 32))
  have e : (2 : Int) ^ n = ((2 ^ n : Nat) : Int) := by simp
  rw [e]
  generalize 2 ^ n = q at h1 ⊢
  omega
theorem pow_val (ex : Nat) : Num.val ((List.replicate (ex / 32 + 1) 0).set (ex / 32) (2 ^ (ex % 32))) = 2 ^ ex := by
  have e1 : ((List.replicate (ex / 32 + 1) 0).set (ex / 32) (2 ^ (ex % 32)))[ex / 32]? = some (2 ^ (ex % 32)) := by rw [List.getElem?_set_self (by simp)]
  have e2 := val_take_succ _ _ _ e1
  rw [List.take_of_length_le (by simp), List.take_set_of_le (Nat.le_refl _), List.take_replicate, Num.val_replicate] at e2
  have hK : Num.K ^ (ex / 32) = 2 ^ (32 * (ex / 32)) := by rw [Nat.pow_mul]; rfl
  rw [e2, hK, Nat.zero_add, ← Nat.pow_add, Nat.div_add_mod]

set_option maxHeartbeats 1000000 in
theorem powerAboveRoot_walk (A : Option Addr) (k c : Nat) (l : List Nat) (w : World) (hn : l.length = k + 1) (hkb : k ≤ 10000000) (hA : Cel w (fun _ => True) A l) (hL : Num.Lim l) :
    Calls Tryd.prog 51 #[.slice A (k + 1) c] w (PowEnd (Num.val l) k w) := by
  obtain ⟨i0, hi, hz0, hz1, hz2⟩ := info_parts info_u32
  obtain ⟨g0, off, rfl, _, hc⟩ := hA (by omega)
  obtain ⟨x, hx⟩ : ∃ x, l[k]? = some x := ⟨_, List.getElem?_eq_getElem (by omega)⟩
  have hxb : x < 4294967296 := hL.at hx
  have hcx := hc _ _ hx
  obtain ⟨s, hs⟩ : ∃ s, s = Lib.bitLen x := ⟨_, rfl⟩
  have hs32 : s ≤ 32 := by rw [hs]; exact Lib.bitLen_le x 32 (by omega) (by omega)
  have Hv := Lib.hid (pow_bits l k x hn hL hx)
  have HS := Lib.hid hs
  clear hx hc hs hn hL
  go_enter Tryd.func51, Tryd.ntmps51
  go_wp2_with fail
  refine (len32_walk x s w hxb HS.out).mono ?_
  rintro e w' ⟨rfl, rfl⟩
  go_wp2_with (at_make; refine wpList_make_u32 _ rfl (.tmp 23) (.tmp 23) 24 rfl 42 i0 Tryd.underlying24 hi hz0 hz1 hz2 .i64 .i64 _ _ ((32 * k + s + 1) / 2 / 32 + 1) rfl rfl (by omega) (by omega) (by omega) ?_; intro g w1 hg1 hown1 hb1 hs1; have Hg := Lib.hid hg1; clear hg1; have hcell1 := hown1.cell0 ((32 * k + s + 1) / 2 / 32) 0 (by simp); have hfr1 := hown1.frozen ((32 * k + s + 1) / 2 / 32))
  go_ret
  rw [show (2 : Int) ^ ((32 * k + s + 1) / 2 % 32) % 4294967296 = ((2 ^ ((32 * k + s + 1) / 2 % 32) : Nat) : Int) from pow_small _ (Nat.mod_lt _ (by omega))]
  have hnew := hown1.set_ ((32 * k + s + 1) / 2 / 32) (2 ^ ((32 * k + s + 1) / 2 % 32))
  have hv := pow_val ((32 * k + s + 1) / 2)
  refine ⟨_, _, rfl, ⟨g, by simp, by have := Hg.out; omega, hnew, below_only hb1 (by have := Hg.out; omega) (only_setCell (only_refl _ _) _ _)⟩, (Num.Lim.replicate _).set _ _ ?_, ?_, ?_, by simp; omega⟩
  · exact Nat.lt_of_lt_of_le (Nat.pow_lt_pow_right (by omega) (Nat.mod_lt _ (by omega))) (Nat.le_refl _)
  · unfold Num.Nrm
    rw [List.getLast?_eq_getElem?]
    simp
  · rw [hv, ← Nat.pow_add]
    refine Nat.lt_of_lt_of_le Hv.out (Nat.pow_le_pow_right (by omega) ?_)
    have := HS.out
    omega

/-- One step of Newton's iteration stays above the root. -/
theorem newton_ge (a r t : Nat) (hr : 0 < r) (ht : t * t ≤ a) : t ≤ (r + a / r) / 2 := by
  have h1 : 2 * t ≤ r + a / r := by
    rcases Nat.lt_or_ge (2 * t) r with h | h
    · exact Nat.le_trans (Nat.le_of_lt h) (Nat.le_add_right _ _)
    · have h2 : (2 * t - r) * r ≤ a := by
        refine Nat.le_trans ?_ ht
        obtain ⟨u, hu⟩ : ∃ u, 2 * t = r + u := ⟨2 * t - r, by omega⟩
        rw [hu, Nat.add_sub_cancel_left]
        rcases Nat.le_total r t with hrt | hrt
        · obtain ⟨d, rfl⟩ : ∃ d, t = r + d := ⟨t - r, by omega⟩
          obtain rfl : u = r + 2 * d := by omega
          have e1 : (r + 2 * d) * r = r * r + 2 * (d * r) := by rw [Nat.add_mul, Nat.mul_assoc]
          have e2 : (r + d) * (r + d) = r * r + 2 * (d * r) + d * d := by rw [Nat.add_mul, Nat.mul_add, Nat.mul_add, Nat.mul_comm r d]; omega
          omega
        · obtain ⟨d, rfl⟩ : ∃ d, r = t + d := ⟨r - t, by omega⟩
          obtain ⟨v, rfl⟩ : ∃ v, t = v + d := ⟨t - d, by omega⟩
          obtain rfl : u = v := by omega
          have e1 : u * (u + d + d) = u * u + 2 * (u * d) := by rw [Nat.mul_add, Nat.mul_add]; omega
          have e2 : (u + d) * (u + d) = u * u + 2 * (u * d) + d * d := by rw [Nat.add_mul, Nat.mul_add, Nat.mul_add, Nat.mul_comm d u]; omega
          omega
      have := (Nat.le_div_iff_mul_le hr).2 h2
      generalize a / r = q at this ⊢
      omega
  generalize a / r = q at h1 ⊢
  omega
theorem newton_stop (a r : Nat) (hr : 0 < r) (h : r ≤ (r + a / r) / 2) : r * r ≤ a := by
  have h1 : r ≤ a / r := by
    generalize a / r = q at h ⊢
    omega
  exact (Nat.le_div_iff_mul_le hr).1 h1

/-- Sqrt returns the root, rounded down. -/
def SqrtEnd (a : Nat) (w : World) (e : Ending) (w' : World) : Prop := ∃ v s, e = .returned v ∧ Res w w' v s ∧ s * s ≤ a ∧ a < (s + 1) * (s + 1)
/-- What the loop of Sqrt keeps. -/
def SqrtInv (a : Nat) (w : World) (gk : Nat) (x : Value) (wr : World) : Prop :=
  ∃ l, Rd wr (fun _ => True) x l ∧ Num.Nrm l ∧ Num.val l = gk ∧ (∀ t, t * t ≤ a → t ≤ gk) ∧ l.length ≤ 10000000 ∧ Below w.heap.size w wr

theorem shr1_walk (A : Option Addr) (n c : Nat) (l : List Nat) (w : World) (hn : l.length = n) (hnc : n ≤ c) (hc : c ≤ 9223372036854775807) (hnb : n ≤ 20000000) (hA : Cel w (fun _ => True) A l) (hL : Num.Lim l) :
    Calls Tryd.prog 52 #[.slice A n c, .int .i64 1] w (RetNew w fun r => r.length = n ∧ Num.Lim r ∧ Num.val r = Num.val l / 2) := by
  have h := shiftRight_walk A n c 1 l w hn hnc hc hnb hA hL (by omega)
  exact h

set_option maxHeartbeats 4000000 in
theorem sqrt_walk (va : Value) (la : List Nat) (w : World) (ha : Rd w (fun _ => True) va la) (hla : la.length ≤ 10000000) :
    Calls Tryd.prog 32 #[va] w (SqrtEnd (Num.val la) w) := by
  obtain ⟨A, n, c, rfl, Hn, hnc, hc, HLa, hA⟩ := ha.open_
  have hn : n ≤ 10000000 := by have := Hn.out; omega
  clear ha hla
  go_enter Tryd.func32, Tryd.ntmps32
  go_wp2_with fail
  refine (trim_walk _ A n c la _ Hn.out.symm hnc hc hA).mono ?_
  rintro e w' ⟨⟨k, hk, rfl, hza, hna⟩, rfl⟩
  have Hva := Lib.hid (hza.val (by have := Hn.out; omega))
  have Hna := Lib.hid hna
  have Hl1 : Hid ((la.take k).length = k) := by show _ = _; have := Hn.out; rw [List.length_take]; omega
  have HL1 : Hid (Num.Lim (la.take k)) := HLa.out.take k
  have hA1 := hA.take k
  clear hza hna hA
  by_cases h0 : k = 0
  · subst h0
    go_wp2
    go_ret
    have h1 : Num.val la = 0 := by rw [← Hva.out]; simp [Num.val]
    refine ⟨_, 0, rfl, ⟨[], ⟨_, 0, rfl, Nat.le_refl _, by omega, Num.Lim.nil, Cel.nil _ _ _⟩, Num.Nrm.nil, rfl, (Below.refl _ _).alloc (Nat.le_refl _) _⟩, by omega, by omega⟩
  · have t0 : ((k : Int) == 0) = false := by simp; omega
    obtain ⟨j, rfl⟩ : ∃ j, k = j + 1 := ⟨k - 1, by omega⟩
    have hpos : 0 < Num.val la := by
      rcases Nat.eq_zero_or_pos (Num.val la) with hz | hz
      · have h1 := Hna.out.eq_nil (by rw [Hva.out]; exact hz)
        have h2 := Hl1.out
        rw [h1] at h2
        simp at h2
      · exact hz
    clear h0
    go_wp2_with fail
    refine (powerAboveRoot_walk A j c _ w Hl1.out (by omega) hA1 HL1.out).mono ?_
    rintro e w1 ⟨_, r0, rfl, ⟨g0, rfl, hg0, ho0, hb0⟩, hLr, hnr, hgt, hlen0⟩
    have hrd0 : Rd w1 (fun _ => True) (.slice (some ⟨g0, 0, none⟩) r0.length r0.length) r0 := ho0.rd _ trivial hLr (by omega)
    have hra : Rd w (fun _ => True) (.slice A (j + 1) c) (la.take (j + 1)) := Rd.slice Hl1.out (by omega) hc HL1.out hA1
    have hra1 := hra.below hb0
    have Hra : Hid (Rd w1 (fun _ => True) (.slice A (j + 1) c) (la.take (j + 1))) := hra1
    have Hgt : Hid (∀ t, t * t ≤ Num.val la → t ≤ Num.val r0) := fun t ht => by
      rcases Nat.lt_or_ge (Num.val r0) t with h | h
      · have h1 := Nat.mul_le_mul (Nat.le_of_lt h) (Nat.le_of_lt h)
        have h2 := Hva.out
        rw [h2] at hgt
        omega
      · exact h
    clear hra hra1 hgt
    go_wp2
    go_loopg [3] (Num.val r0) (fun gk x wr => SqrtInv (Num.val la) w gk x wr ∧ Below w1.heap.size w1 wr)
    case atStart => exact ⟨⟨r0, hrd0, hnr, rfl, Hgt.out, by omega, hb0⟩, Below.refl _ _⟩
    case round =>
      obtain ⟨⟨l, hr, hnl, hgk, hinv, hlen, hbl⟩, hbl1⟩ := hrel
      have Hgk := Lib.hid hgk
      have Hnl := Lib.hid hnl
      have Hinv := Lib.hid hinv
      have Hbl1 := Lib.hid hbl1
      have hrp : 0 < Num.val l := by have := hinv 1 (by omega); omega
      have hraw := Hra.out.below hbl1
      clear hgk hnl hinv hbl1
      go_wp2_with fail
      refine (divmod_pos _ _ (la.take (j + 1)) l wr hraw hr (by have := Hl1.out; omega) hrp).mono ?_
      rintro e w2 ⟨vq, _, rfl, ⟨lq, hrq, hnq, hvq, hb2⟩, _⟩
      have Hvq := Lib.hid hvq
      have hlq : lq.length ≤ 10000000 := by
        have h1 := hnq.len_le (k := j + 1) (by
          rw [hvq]
          have h2 := Num.val_lt _ HL1.out
          rw [Hl1.out] at h2
          exact Nat.lt_of_le_of_lt (Nat.div_le_self _ _) h2)
        omega
      clear hvq hnq
      go_wp2_with fail
      refine (add_walk _ _ l lq w2 (hr.below hb2) hrq (by omega) hlq).mono ?_
      rintro e w3 ⟨_, rfl, ls, hrs, hns, hvs, hb3⟩
      obtain ⟨As, ns, cs, rfl, Hns, hnsc, hcs, HLs, hAs⟩ := hrs.open_
      have Hvs := Lib.hid hvs
      have hlsb : ls.length ≤ 10000001 := by
        obtain ⟨N, hN⟩ : ∃ N, N = 10000000 := ⟨_, rfl⟩
        have h1 := hns.len_le (k := N + 1) (by
          rw [hvs]
          have h2 := Num.val_lt l hr.lim
          have h3 := Num.val_lt lq hrq.lim
          have h4 : Num.K ^ l.length ≤ Num.K ^ N := Nat.pow_le_pow_right Num.K_pos (by omega)
          have h5 : Num.K ^ lq.length ≤ Num.K ^ N := Nat.pow_le_pow_right Num.K_pos (by omega)
          rw [Nat.pow_succ]
          have h6 := Nat.mul_le_mul_left (Num.K ^ N) Num.K_two
          generalize Num.K ^ N = P at h4 h5 h6 ⊢
          omega)
        omega
      have hnsb : ns ≤ 10000001 := by have := Hns.out; omega
      clear hvs hns hlsb
      go_wp2_with fail
      refine (shr1_walk As ns cs ls w3 Hns.out hnsc hcs (by omega) hAs HLs.out).mono ?_
      rintro e w4 ⟨_, r4, rfl, ⟨g4, rfl, hg4, ho4, hb4⟩, hl4, hL4, hv4⟩
      rw [hl4]
      have Hl4 := Lib.hid hl4
      have Hv4 := Lib.hid hv4
      have HL4 := Lib.hid hL4
      clear hl4 hv4 hL4
      go_wp2_with fail
      refine (trim_walk (fun _ => True) _ ns ns r4 w4 (by have := Hl4.out; omega) (Nat.le_refl _) (by omega) ho4.celTop).mono ?_
      rintro e w' ⟨⟨j4, hj4, rfl, hz4, hn4⟩, rfl⟩
      have hrd4 : Rd w4 (fun _ => True) (.slice (some ⟨g4, 0, none⟩) j4 ns) (r4.take j4) := ho4.rdTake _ trivial HL4.out j4 ns (by have := Hl4.out; omega) hj4 (by omega)
      have hv4' : Num.val (r4.take j4) = (Num.val l + Num.val lq) / 2 := by rw [hz4.val (by have := Hl4.out; omega), Hv4.out, Hvs.out]
      have Hv4' := Lib.hid hv4'
      have Hn4 := Lib.hid hn4
      have hrl := ((hr.below hb2).below hb3).below hb4
      have hb24 : Below wr.heap.size wr w4 := (hb2.trans (hb3.mono hb2.size)).trans (hb4.mono (Nat.le_trans hb2.size hb3.size))
      clear hv4' hn4 hz4
      go_wp2_with fail
      refine (cmp_walk _ _ _ l w4 hrd4 hrl).mono ?_
      rintro e w' ⟨he, q, rfl⟩
      by_cases hstop : Num.val l ≤ Num.val (r4.take j4)
      · have Hci : Hid (0 ≤ cmpI (Num.val (r4.take j4)) (Num.val l)) := by
          show 0 ≤ _
          rcases Nat.lt_or_ge (Num.val l) (Num.val (r4.take j4)) with h | h
          · rw [cmpI_gt h]; omega
          · rw [cmpI_eq (by omega)]; omega
        obtain ⟨ci, hci⟩ : ∃ ci, ci = cmpI (Num.val (r4.take j4)) (Num.val l) := ⟨_, rfl⟩
        rw [← hci] at he Hci
        subst he
        have hci0 : 0 ≤ ci := Hci.out
        clear hci
        go_wp2
        go_ret
        have hvq2 : Num.val lq = Num.val la / Num.val l := by rw [Hvq.out, Hva.out]
        have h1 := Hv4'.out
        rw [hvq2] at h1
        have h2 := newton_stop (Num.val la) (Num.val l) hrp (by rw [← h1]; exact hstop)
        refine ⟨_, Num.val l, rfl, ⟨l, hrl, Hnl.out, rfl, below_drewN (hbl.trans (hb24.mono hbl.size)) q⟩, h2, ?_⟩
        rcases Nat.lt_or_ge (Num.val la) ((Num.val l + 1) * (Num.val l + 1)) with h3 | h3
        · exact h3
        · have h4 := Hinv.out _ h3
          have h5 := Hgk.out
          omega
      · have hlt : Num.val (r4.take j4) < Num.val l := by omega
        rw [cmpI_lt hlt] at he
        subst he
        have Hlt := Lib.hid hlt
        clear hstop hlt
        go_wp2
        go_roundg (Num.val (r4.take j4))
        case measure => have := Hlt.out; have := Hgk.out; omega
        case rel =>
          have hvq2 : Num.val lq = Num.val la / Num.val l := by rw [Hvq.out, Hva.out]
          have h1 := Hv4'.out
          rw [hvq2] at h1
          refine ⟨⟨_, hrd4, Hn4.out, rfl, fun t ht => ?_, ?_, below_drewN (hbl.trans (hb24.mono hbl.size)) q⟩, below_drewN (Hbl1.out.trans (hb24.mono Hbl1.out.size)) q⟩
          · rw [h1]
            exact newton_ge _ _ _ hrp ht
          · have h6 := Hn4.out.len_le (Nat.lt_trans Hlt.out (Num.val_lt l hr.lim))
            omega
end Go.Proofs.YtldkiolkhpjhbaaDoor
