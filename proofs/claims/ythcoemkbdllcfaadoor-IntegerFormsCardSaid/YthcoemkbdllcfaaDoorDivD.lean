/-
  The walk of natural.divideLong.
-/
import Derived.Test.YthcoemkbdllcfaaDoorDivC
import Derived.Test.YthcoemkbdllcfaaDoorLongNum
import Derived.Test.YthcoemkbdllcfaaDoorShelf
namespace Go.Proofs.YthcoemkbdllcfaaDoor
open Go.RowKit

theorem lz_walk (x s : Nat) (w : World) (hx : x < 4294967296) (hs : s + Lib.bitLen x = 32) :
    Calls Tryd.prog 83 #[.int .u32 (x : Int)] w fun e w' => e = .returned (.int .i64 (s : Int)) ∧ w = w' := by
  refine (Tryd.bits_LeadingZeros32 (x : Int) w (by omega) (by omega)).mono ?_
  rintro e w' ⟨rfl, rfl⟩
  refine ⟨?_, rfl⟩
  have : (32 : Int) - (Lib.bitLen (x : Int).toNat : Int) = (s : Int) := by rw [Int.toNat_natCast]; omega
  rw [this]

theorem shift_room (x s : Nat) (hs : s ≤ 31) (h : x * 2 ^ s < 4294967296) : (x + 1) * 2 ^ s ≤ 4294967296 := by
  have h1 : x < 2 ^ (32 - s) := by
    have e : 4294967296 = 2 ^ (32 - s) * 2 ^ s := by rw [← Nat.pow_add, show 32 - s + s = 32 from by omega]
    rw [e] at h
    exact Nat.lt_of_mul_lt_mul_right h
  have := Nat.mul_le_mul_right (2 ^ s) (show x + 1 ≤ 2 ^ (32 - s) from h1)
  rwa [← Nat.pow_add, show 32 - s + s = 32 from by omega] at this
/-- The divisor with its highest bit set. -/
theorem div_bounds (lb : List Nat) (m x s : Nat) (hlen : lb.length = m + 1) (hL : Num.Lim lb) (hx : lb[m]? = some x) (hs : s ≤ 31) (h1 : 2147483648 ≤ x * 2 ^ s) (h2 : x * 2 ^ s < 4294967296) :
    Num.K ^ m * 2147483648 ≤ Num.val lb * 2 ^ s ∧ Num.val lb * 2 ^ s < Num.K ^ (m + 1) := by
  have e := val_take_succ lb m x hx
  rw [List.take_of_length_le (by omega)] at e
  have hl := Num.val_lt (lb.take m) (hL.take m)
  rw [List.length_take, Nat.min_eq_left (by omega)] at hl
  have h3 := shift_room x s hs h2
  rw [e]
  constructor
  · rw [Nat.add_mul, Nat.mul_assoc]
    have := Nat.mul_le_mul_left (Num.K ^ m) h1
    omega
  · have h4 : (Num.val (lb.take m) + Num.K ^ m * x + 1) * 2 ^ s ≤ Num.K ^ m * ((x + 1) * 2 ^ s) := by
      rw [← Nat.mul_assoc]
      refine Nat.mul_le_mul_right _ ?_
      rw [Nat.mul_add, Nat.mul_one]
      omega
    have h5 : Num.K ^ m * ((x + 1) * 2 ^ s) ≤ Num.K ^ m * Num.K := Nat.mul_le_mul_left _ (by rw [Num.K_eq]; exact h3)
    rw [Nat.pow_succ]
    have h6 : 0 < 2 ^ s := Nat.pow_pos (by omega)
    rw [Nat.add_mul, Nat.one_mul] at h4
    omega
theorem trim_len (r : List Nat) (k m : Nat) (hk : k ≤ r.length) (hL : Num.Lim r) (hn : Num.Nrm (r.take k)) (hv : Num.val (r.take k) = Num.val r) (h1 : Num.K ^ m ≤ Num.val r) (h2 : Num.val r < Num.K ^ (m + 1)) : k = m + 1 := by
  have e : (r.take k).length = k := by rw [List.length_take]; omega
  have h3 := hn.len_le (k := m + 1) (by omega)
  rw [e] at h3
  rcases Nat.lt_or_ge m k with h | h
  · omega
  · have h4 := Num.val_lt (r.take k) (hL.take k)
    rw [e] at h4
    have := Nat.pow_le_pow_right Num.K_pos h
    omega
theorem top_limb (dl : List Nat) (m : Nat) (hlen : dl.length = m + 1) (hL : Num.Lim dl) (h1 : Num.K ^ m * 2147483648 ≤ Num.val dl) : ∃ h, dl[m]? = some h ∧ 2147483648 ≤ h := by
  obtain ⟨x, hx⟩ : ∃ x, dl[m]? = some x := ⟨_, List.getElem?_eq_getElem (by omega)⟩
  refine ⟨x, hx, ?_⟩
  have e := val_take_succ dl m x hx
  rw [List.take_of_length_le (by omega)] at e
  have hl := Num.val_lt (dl.take m) (hL.take m)
  rw [List.length_take, Nat.min_eq_left (by omega)] at hl
  have h2 : Num.K ^ m * 2147483648 < Num.K ^ m * (x + 1) := by rw [Nat.mul_add, Nat.mul_one]; omega
  have := Nat.lt_of_mul_lt_mul_left h2
  omega
theorem start_lt (r : List Nat) (N m h s : Nat) (hlen : r.length = N + m + 1) (hL : Num.Lim r) (hh : r[N + m]? = some h) (hhs : h < 2 ^ s) (hs : s ≤ 31) (D : Nat) (hD : Num.K ^ m * 2147483648 ≤ D) : Num.val (r.drop N) < D := by
  have hx : (r.drop N)[m]? = some h := by rw [List.getElem?_drop]; exact hh
  have e := val_take_succ (r.drop N) m h hx
  rw [List.take_of_length_le (by simp; omega)] at e
  have hl := Num.val_lt ((r.drop N).take m) ((hL.drop N).take m)
  rw [List.length_take, Nat.min_eq_left (by simp; omega)] at hl
  have h2 : h + 1 ≤ 2147483648 := Nat.le_trans hhs (Nat.le_trans (Nat.pow_le_pow_right (by omega) hs) (by decide))
  have h3 := Nat.mul_le_mul_left (Num.K ^ m) h2
  rw [Nat.mul_add, Nat.mul_one] at h3
  omega

/-- divideLong returns quotient and remainder. -/
def LongEnd (q r : Nat) (w : World) (e : Ending) (w' : World) : Prop := ∃ v1 v2, e = .returned (.tuple #[v1, v2]) ∧ Res w w' v1 q ∧ Res w w' v2 r

/-- The loop of divideLong in memory: R lies in block g2, the digits in block g3. -/
def LongInv (t : TypeId) (g1 g2 g3 N D k : Nat) (A0 dl : List Nat) (w wr : World) : Prop :=
  ∃ R qs, Long.At N D A0 R qs k ∧ Own t wr g2 R ∧ Own t wr g3 (mid (List.replicate N 0) k qs) ∧ CelAt wr g1 0 dl ∧ Below w.heap.size w wr
theorem below_only {w wr w' : World} {g : Nat} (h : Below w.heap.size w wr) (hg : w.heap.size ≤ g) (ho : wr.grownBy w' (some g)) : Below w.heap.size w w' :=
  h.trans ⟨ho.os, ho.tape, ho.output, ho.size, fun i hi => ho.block i (Nat.lt_of_lt_of_le hi h.size) (by intro e; injection e with e; omega)⟩
theorem CelAt.only {w w' : World} {g g' o : Nat} {l : List Nat} (h : CelAt w g' o l) (hne : g' ≠ g) (ho : w.grownBy w' (some g)) : CelAt w' g' o l := fun j x hx => only_cell ho hne (h j x hx)
theorem CelAt.old_ {w w' : World} {g o : Nat} {l : List Nat} (h : CelAt w g o l) (hb : Below w.heap.size w w') : CelAt w' g o l := fun j x hx => by
  have := h j x hx
  rw [hb.cell (World.block_lt_of_cell? w _ this)]
  exact this

set_option maxRecDepth 4000 in
set_option maxHeartbeats 4000000 in
theorem divideLong_walk (A B : Option Addr) (ka m c d : Nat) (la lb : List Nat) (w : World) (hka : la.length = ka) (hkb : lb.length = m + 2) (hle : m + 2 ≤ ka) (hkc : ka ≤ c) (hcm : c ≤ 9223372036854775807) (hkd : m + 2 ≤ d) (hdm : d ≤ 9223372036854775807) (hn : ka ≤ 10000000) (hA : Cel w (fun _ => True) A la) (hB : Cel w (fun _ => True) B lb) (hLa : Num.Lim la) (hLb : Num.Lim lb) (hNb : Num.Nrm lb) :
    Calls Tryd.prog 68 #[.slice A ka c, .slice B (m + 2) d] w (LongEnd (Num.val la / Num.val lb) (Num.val la % Num.val lb) w) := by
  obtain ⟨i0, hi, hz0, hz1, hz2⟩ := info_parts info_u32
  obtain ⟨N, rfl⟩ : ∃ N, ka = N + m + 1 := ⟨ka - m - 1, by omega⟩
  have hN : 1 ≤ N := by omega
  clear hle
  obtain ⟨gb, ob, rfl, _, hcb⟩ := hB (by omega)
  obtain ⟨x, hx⟩ : ∃ x, lb[m + 1]? = some x := ⟨_, List.getElem?_eq_getElem (by omega)⟩
  have hcx := hcb _ _ hx
  have hxb : x < 4294967296 := hLb.at hx
  have hx0 : 0 < x := by
    rcases Nat.eq_zero_or_pos x with h0 | h0
    · exfalso
      apply hNb
      rw [List.getLast?_eq_getElem?, hkb]
      rw [h0] at hx
      exact hx
    · exact h0
  obtain ⟨s, hs32, hs, hs1, hs2⟩ := Long.lz x hx0 hxb
  have hDb := div_bounds lb (m + 1) x s hkb hLb hx hs hs1 hs2
  have HDb := Lib.hid hDb
  have HS := Lib.hid hs32
  have Hka := Lib.hid hka
  have Hkb := Lib.hid hkb
  have HLa := Lib.hid hLa
  have HLb := Lib.hid hLb
  have HNb := Lib.hid hNb
  clear hDb hs32 hs1 hs2 hka hkb hLa hLb hNb hx
  go_enter Tryd.func68, Tryd.ntmps68
  go_wp2_with fail
  refine (lz_walk x s _ hxb HS.out).mono ?_
  rintro e w' ⟨rfl, rfl⟩
  go_wp2_with fail
  refine (shiftLeft_walk _ (m + 2) d s lb _ Hkb.out hkd hdm (by omega) hB HLb.out hs).mono ?_
  rintro e w1 ⟨_, r1, rfl, ⟨g1, rfl, hg1, ho1, hb1⟩, hl1, hL1, hv1, _⟩
  rw [hl1]
  have Hl1 := Lib.hid hl1
  have Hv1 := Lib.hid hv1
  clear hl1 hv1
  go_wp2_with fail
  refine (trim_walk (fun _ => True) (some ⟨g1, 0, none⟩) (m + 2 + 1) (m + 2 + 1) r1 _ Hl1.out.symm (Nat.le_refl _) (by omega) ho1.celTop).mono ?_
  rintro e w' ⟨⟨k, hk, rfl, hz, hnr⟩, rfl⟩
  have hzv := hz.val (by have := Hl1.out; omega)
  obtain rfl : k = m + 2 := trim_len r1 k (m + 1) (by have := Hl1.out; omega) hL1 hnr hzv (by rw [Hv1.out]; have := HDb.out.1; have h1 : Num.K ^ (m + 1) * 1 ≤ Num.K ^ (m + 1) * 2147483648 := Nat.mul_le_mul_left _ (by omega); omega) (by rw [Hv1.out]; exact HDb.out.2)
  rw [Hv1.out] at hzv
  have HD := Lib.hid hzv
  have hL2 := hL1.take (m + 2)
  have hcd := ho1.cel.take (m + 2)
  have Hdl : Hid ((r1.take (m + 2)).length = m + 2) := by show _ = _; have := Hl1.out; rw [List.length_take]; omega
  obtain ⟨dl, hdl⟩ : ∃ l, l = r1.take (m + 2) := ⟨_, rfl⟩
  rw [← hdl] at HD hL2 hcd Hdl
  have HLd := Lib.hid hL2
  clear hdl hzv hL2 hnr hz hL1 hk Hl1 Hv1
  go_wp2_with fail
  refine (shiftLeft_walk A (N + m + 1) c s la _ Hka.out hkc hcm (by omega) (hA.below' hb1) HLa.out hs).mono ?_
  rintro e w2 ⟨_, r2, rfl, ⟨g2, rfl, hg2, ho2, hb2⟩, hl2, hL2, hv2, h, hh, hhs⟩
  rw [hl2]
  have Hl2 := Lib.hid hl2
  have Hv2 := Lib.hid hv2
  have HL2 := Lib.hid hL2
  have Hh := Lib.hid hh
  clear hl2 hv2 hL2 hh
  go_wp2_with (at_make; refine wpList_make_u32 _ rfl (.tmp 32) (.tmp 32) 23 rfl 46 i0 Tryd.underlying23 hi hz0 hz1 hz2 .i64 .i64 _ _ N rfl rfl (by omega) (by omega) (by omega) ?_; intro g3 w3 hg3 ho3 hb3 hs3; have Hg3 := Lib.hid hg3; clear hg3)
  have g12 : g1 < g2 := Nat.lt_of_lt_of_le ho1.lt hg2
  have g23 : g2 < g3 := by have := ho2.lt; have := Hg3.out; omega
  have hb123 : Below w.heap.size w w3 := (hb1.trans (hb2.mono hb1.size)).trans (hb3.mono (Nat.le_trans hb1.size hb2.size))
  have ho23 := ho2.below hb3 ho2.lt
  have hcd3 := (hcd.old_ hb2).old_ hb3
  have Hst : Hid (Num.val (r2.drop N) < Num.val lb * 2 ^ s) := start_lt r2 N (m + 1) h s (by have := Hl2.out; omega) HL2.out Hh.out hhs hs _ HDb.out.1
  clear hcd ho1 ho2 hb1 hb2 hb3 hs3 hcb hcx hhs hB hA Hh
  go_loopw [10] (fun i wr => ∃ k : Nat, k ≤ N ∧ i = .int .i64 ((k : Int) - 1) ∧ LongInv 46 g1 g2 g3 N (Num.val dl) k r2 dl w wr) (fun i _ => (intOf i + 1).toNat)
  case atStart => exact ⟨N, Nat.le_refl _, by go_num, r2, [], ⟨rfl, HL2.out, rfl, Num.Lim.nil, by simp [Num.val], by rw [HD.out]; exact Hst.out, rfl⟩, ho23, by rw [mid_nil]; exact ho3, hcd3, hb123⟩
  case round =>
    obtain ⟨k, hk, rfl, R, qs, hat, hoR, hoQ, hcd, hbl⟩ := hrel
    have Hat := Lib.hid hat
    clear hat
    clear hcd3 ho23 ho3 hb123
    by_cases h0 : k = 0
    · have hk0 : ¬ 0 ≤ (k : Int) - 1 := by omega
      have Hk := Lib.hid h0
      clear h0
      have hlenQ : qs.length = N := by have := Hat.out.lenQ; have := Hk.out; omega
      have HlenQ := Lib.hid hlenQ
      clear hlenQ
      have hoQ' : Own 46 wr g3 qs := by
        rw [Hk.out, mid_whole _ _ (by have := HlenQ.out; simp; omega)] at hoQ
        exact hoQ
      have hRl : Hid (R.length = N + m + 2) := by show _ = _; have := Hat.out.lenR; have := Hl2.out; omega
      go_wp2_with fail
      refine (trim_walk (fun _ => True) _ N N qs wr (by have := HlenQ.out; omega) (Nat.le_refl _) (by omega) hoQ'.celTop).mono ?_
      rintro e w' ⟨⟨j1, hj1, rfl, hz1', hn1⟩, rfl⟩
      have Hz1 := Lib.hid hz1'
      have Hn1 := Lib.hid hn1
      clear hz1' hn1
      go_wp2_with fail
      refine (trim_walk (fun _ => True) _ (N + m + 2) _ R wr (by have := hRl.out; omega) (by omega) (by omega) hoR.celTop).mono ?_
      rintro e w' ⟨⟨j2, hj2, rfl, hz2', hn2⟩, rfl⟩
      have Hz2 := Lib.hid hz2'
      have Hn2 := Lib.hid hn2
      clear hz2' hn2
      go_wp2_with fail
      refine (shiftRight_walk _ j2 _ s (R.take j2) wr (by have := hRl.out; rw [List.length_take]; omega) (by omega) (by omega) (by omega) (hoR.celTop.take j2) (Hat.out.limR.take _) hs).mono ?_
      rintro e w6 ⟨_, r6, rfl, ⟨g6, rfl, hg6, ho6, hb6⟩, hl6, hL6, hv6⟩
      rw [hl6]
      have Hl6 := Lib.hid hl6
      have HL6 := Lib.hid hL6
      have Hv6 := Lib.hid hv6
      clear hl6 hL6 hv6
      go_wp2_with fail
      refine (trim_walk (fun _ => True) _ j2 _ r6 w6 (by have := Hl6.out; omega) (by omega) (by omega) ho6.celTop).mono ?_
      rintro e w' ⟨⟨j3, hj3, rfl, hz3', hn3⟩, rfl⟩
      go_wp2
      go_ret2
      have heq := Hat.out.eq
      have hlt := Hat.out.lt
      rw [Hk.out, List.drop_zero, List.drop_zero, HD.out, Hv2.out] at heq
      rw [Hk.out, List.drop_zero, HD.out] at hlt
      have hpos : 0 < Num.val lb := by
        have h1 := HDb.out.1
        have h2 := Nat.mul_le_mul_left (Num.K ^ (m + 1)) (show 1 ≤ 2147483648 by omega)
        have h3 := Num.pow_pos' (m + 1)
        rcases Nat.eq_zero_or_pos (Num.val lb) with h0 | h0
        · rw [h0] at h1; omega
        · exact h0
      have hfin := Long.fin (Num.val la) (Num.val lb) s _ _ hpos heq hlt
      have hbl6 : Below w.heap.size w w6 := hbl.trans (hb6.mono hbl.size)
      have hoQ6 := hoQ'.below hb6 hoQ'.lt
      refine ⟨_, _, rfl, ⟨qs.take j1, hoQ6.rdTake _ trivial Hat.out.limQ j1 N (by have := HlenQ.out; omega) hj1 (by omega), Hn1.out, ?_, hbl6⟩, ⟨r6.take j3, ho6.rdTake _ trivial HL6.out j3 j2 (by have := Hl6.out; omega) hj3 (by omega), hn3, ?_, hbl6⟩⟩
      · rw [Hz1.out.val (by have := HlenQ.out; omega)]
        exact hfin.1
      · rw [hz3'.val (by have := Hl6.out; omega), Hv6.out, Hz2.out.val (by have := hRl.out; omega)]
        exact hfin.2
    · obtain ⟨k, rfl⟩ : ∃ j, k = j + 1 := ⟨k - 1, by omega⟩
      have hk0 : 0 ≤ ((k + 1 : Nat) : Int) - 1 := by omega
      have hkt : (((k + 1 : Nat) : Int) - 1).toNat = k := by omega
      clear h0
      have hRl : R.length = N + m + 2 := by have := Hat.out.lenR; have := Hl2.out; omega
      have HRl := Lib.hid hRl
      have HDK : Hid (Num.val dl < Num.K ^ (m + 2)) := by show _ < _; rw [HD.out]; exact HDb.out.2
      have HD0 : Hid (0 < Num.val dl) := by
        show 0 < _
        rw [HD.out]
        have h1 := HDb.out.1
        have h2 := Nat.mul_le_mul_left (Num.K ^ (m + 1)) (show 1 ≤ 2147483648 by omega)
        have h3 := Num.pow_pos' (m + 1)
        omega
      have Hsl : Hid (((R.drop k).take (m + 3)).length = m + 3) := by show _ = _; simp; omega
      have Hlt : Hid (Num.val ((R.drop k).take (m + 2 + 1)) < Num.K * Num.val dl) := Hat.out.seg_lt HDK.out (by have := Hl2.out; omega)
      have hcseg : CelAt wr g2 k ((R.drop k).take (m + 3)) := (hoR.celAt k).take (m + 3)
      clear hRl
      go_wp2_with fail
      rw [show k + (m + 2) + 1 - k = m + 3 from by omega]
      refine (guessDigit_walk g2 g1 k 0 m _ _ _ dl wr Hsl.out Hdl.out hcseg hcd (by omega) ((Hat.out.limR.drop k).take _) HLd.out (top_limb dl (m + 1) Hdl.out HLd.out (by rw [HD.out]; exact HDb.out.1)) Hlt.out).mono ?_
      rintro e w' ⟨dg, rfl, hdg, hdlo, hdhi, q, rfl⟩
      have Hdlo := Lib.hid hdlo
      have Hdhi := Lib.hid hdhi
      clear hdlo hdhi hcseg
      go_wp2_with fail
      refine (subtractProduct_walk _ g2 k (m + 2) _ _ dg R dl _ (hoR.drewN q) (by have := HRl.out; omega) (by omega) (fun _ => ⟨g1, 0, rfl, by omega, hcd⟩) Hdl.out Hat.out.limR HLd.out hdg).mono ?_
      rintro e w4 ⟨r, bw, hbw, rfl, hr, hLr, hvr, hoW, hgW⟩
      have Hr := Lib.hid hr
      have HLr := Lib.hid hLr
      have Hvr := Lib.hid hvr
      have hbl4 : Below w.heap.size w w4 := below_only (below_drewN hbl q) (by omega) hgW
      have hoQ4 : Own 46 w4 g3 _ := (hoQ.drewN q).grown hgW (by intro e; injection e with e; omega)
      have hcd4 : CelAt w4 g1 0 dl := CelAt.only (w := wr.drewN q) hcd (by omega) hgW
      clear hr hLr hvr hgW hoR hoQ hcd hbl
      have hcell3 : ∃ u, (mid (List.replicate N 0) (k + 1) qs)[k]? = some u := ⟨_, List.getElem?_eq_getElem (by rw [mid_length _ _ _ (by have := Hat.out.lenQ; simp; omega)]; simp; omega)⟩
      obtain ⟨u3, hu3⟩ := hcell3
      have Hu3 := Lib.hid hu3
      clear hu3
      have hkN : k < N := by omega
      by_cases hb0 : bw = 0
      · subst hb0
        have hdec : decide ((0 : Nat) = 1) = false := rfl
        have hc3 := hoQ4.cel k u3 Hu3.out
        rw [Nat.zero_add] at hc3
        have hf3 := hoQ4.frozen k
        go_wp2
        go_roundw
        case rel =>
          have hok := Long.digit_ok _ _ _ _ _ HD0.out Hvr.out Hdlo.out Hdhi.out
          refine ⟨k, by omega, by go_num, mid R k r, dg :: qs, ?_, ?_, ?_, ?_, ?_⟩
          · rw [hok.1]
            exact Hat.out.step HDK.out HD0.out (by have := Hl2.out; omega) Hr.out HLr.out hok.2
          · exact Own.grown hoW (only_setCell (only_refl _ _) _ _) (by intro e; injection e with e; omega)
          · rw [← mid_front _ qs k dg (by simp; omega)]
            exact hoQ4.set_ _ _
          · exact CelAt.only hcd4 (by omega) (only_setCell (only_refl _ _) _ _)
          · exact below_only hbl4 (by omega) (only_setCell (only_refl _ _) _ _)
        case measure => simp [intOf] <;> omega
      · obtain rfl : bw = 1 := by omega
        have hdec : decide ((1 : Nat) = 1) = true := rfl
        have hdg1 : 1 ≤ dg := by
          have h1 := Hvr.out
          have h2 := Num.val_lt r HLr.out
          rw [Hr.out] at h2
          rcases Nat.eq_zero_or_pos dg with h0 | h0
          · rw [h0] at h1; omega
          · exact h0
        go_wp2_with fail
        refine (addInto_walk _ g2 k (m + 3) (m + 2) _ _ (mid R k r) dl w4 hoW (by rw [mid_length R k r (by have := Hr.out; have := HRl.out; omega)]; have := HRl.out; omega) (by omega) (fun _ => ⟨g1, 0, rfl, by omega, hcd4⟩) Hdl.out (by omega) (by omega) (mid_lim Hat.out.limR HLr.out) HLd.out).mono ?_
        rintro e w5 ⟨rfl, r5, hr5, hL5, ⟨cr, hcr, hv5⟩, hoW5, hgW5⟩
        have Hr5 := Lib.hid hr5
        have HL5 := Lib.hid hL5
        have Hv5 := Lib.hid hv5
        have hbl5 : Below w.heap.size w w5 := below_only hbl4 (by omega) hgW5
        have hoQ5 : Own 46 w5 g3 _ := hoQ4.grown hgW5 (by intro e; injection e with e; omega)
        have hcd5 : CelAt w5 g1 0 dl := hcd4.only (by omega) hgW5
        clear hr5 hL5 hv5 hgW5 hoW hoQ4 hcd4 hbl4
        have hc3 := hoQ5.cel k u3 Hu3.out
        rw [Nat.zero_add] at hc3
        have hf3 := hoQ5.frozen k
        go_wp2
        go_roundw
        case rel =>
          have hseg := Long.mid_seg R r k (by have := Hr.out; have := HRl.out; omega)
          have h5 := Hv5.out
          rw [Hr.out] at hseg
          rw [hseg] at h5
          have b1 := Num.val_lt r HLr.out
          have b2 := Num.val_lt r5 HL5.out
          rw [Hr.out] at b1
          rw [Hr5.out] at b2
          have hok := Long.digit_back _ _ _ _ _ _ _ HD0.out b1 b2 Hvr.out Hdlo.out Hdhi.out hcr h5
          refine ⟨k, by omega, by go_num, mid R k r5, (dg - 1) :: qs, ?_, ?_, ?_, ?_, ?_⟩
          · rw [hok.2.1]
            exact Hat.out.step HDK.out HD0.out (by have := Hl2.out; omega) Hr5.out HL5.out hok.2.2
          · rw [Long.mid_mid R r r5 k (by have := Hr.out; have := HRl.out; omega) (by have := Hr.out; have := Hr5.out; omega)] at hoW5
            exact Own.grown hoW5 (only_setCell (only_refl _ _) _ _) (by intro e; injection e with e; omega)
          · rw [← mid_front _ qs k (dg - 1) (by simp; omega), show ((dg : Int) - 1) = ((dg - 1 : Nat) : Int) from by omega]
            exact hoQ5.set_ _ _
          · exact CelAt.only hcd5 (by omega) (only_setCell (only_refl _ _) _ _)
          · exact below_only hbl5 (by omega) (only_setCell (only_refl _ _) _ _)
        case measure => simp [intOf] <;> omega
end Go.Proofs.YthcoemkbdllcfaaDoor
