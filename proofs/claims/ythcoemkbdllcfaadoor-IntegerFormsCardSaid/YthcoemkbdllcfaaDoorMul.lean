/-
  The walks of natural.addProduct and natural.Mul.
-/
import Derived.Test.YthcoemkbdllcfaaDoorSub
namespace Go.Proofs.YthcoemkbdllcfaaDoor
open Go.RowKit

/-- The loop of addProduct. -/
def ProdInv (e : TypeId) (g off k cr limb : Nat) (l lb : List Nat) (w wr : World) : Prop :=
  ∃ r, r.length = k ∧ Num.Lim r ∧ Num.val r + Num.K ^ k * cr = Num.val ((l.drop off).take k) + limb * Num.val (lb.take k) ∧ Wr e g off l r w wr
section
variable {e : TypeId} {g off k cr limb : Nat} {l lb : List Nat} {w wr : World}
theorem ProdInv.start (h : Own e w g l) : ProdInv e g off 0 0 limb l lb w w := ⟨[], rfl, Num.Lim.nil, by simp [Num.val], Wr.start h⟩
theorem ProdInv.cell (h : ProdInv e g off k cr limb l lb w wr) {x : Nat} (hx : l[off + k]? = some x) : wr.cell? ⟨g, off + k, none⟩ = some (.int .u32 (x : Int)) := by
  obtain ⟨r, hk, _, _, hw⟩ := h
  exact hw.cell hk hx
theorem ProdInv.frozen (h : ProdInv e g off k cr limb l lb w wr) (i : Nat) : wr.frozen? ⟨g, i, none⟩ = false := by
  obtain ⟨r, hk, _, _, hw⟩ := h
  exact hw.1.frozen i
theorem ProdInv.other (h : ProdInv e g off k cr limb l lb w wr) {g' o : Nat} (hne : g' ≠ g) {u : Value} (hc : w.cell? ⟨g', o, none⟩ = some u) : wr.cell? ⟨g', o, none⟩ = some u := by
  obtain ⟨r, hk, _, _, hw⟩ := h
  exact only_cell hw.2 hne hc
theorem prod_num (R P K cr L limb B x y d cr' : Nat) (hv : R + P * cr = L + limb * B) (hd : d + K * cr' = cr + (y * limb + x)) : R + P * d + P * K * cr' = L + P * x + limb * (B + P * y) := by
  have h := congrArg (P * ·) hd
  simp only [Nat.mul_add, ← Nat.mul_assoc] at h ⊢
  have e1 : P * y * limb = limb * P * y := by rw [Nat.mul_comm (P * y) limb, Nat.mul_assoc]
  omega
theorem ProdInv.step (h : ProdInv e g off k cr limb l lb w wr) {x y : Nat} (hx : l[off + k]? = some x) (hy : lb[k]? = some y) (z : Int) (hz : z = ((cr + (y * limb + x)) % 4294967296 : Nat)) :
    ProdInv e g off (k + 1) ((cr + (y * limb + x)) / 4294967296) limb l lb w (wr.setCell ⟨g, off + k, none⟩ (.int .u32 z)) := by
  obtain ⟨r, hk, hr, hv, hw⟩ := h
  have hlt := (List.getElem?_eq_some_iff.1 hx).1
  refine ⟨r ++ [(cr + (y * limb + x)) % 4294967296], by simp [hk], hr.append (Num.Lim.cons (Nat.mod_lt _ (by decide)) Num.Lim.nil), ?_, hw.step hk hlt _ z hz⟩
  rw [Num.val_snoc, hk, val_take_succ (l.drop off) k x (by rw [List.getElem?_drop]; exact hx), val_take_succ lb k y hy, Nat.pow_succ]
  exact prod_num _ _ _ _ _ _ _ _ _ _ _ hv (Nat.mod_add_div _ _)
end
/-- What addProduct leaves. -/
def ProdPost (e : TypeId) (g off n limb cr : Nat) (l lb : List Nat) (w w' : World) : Prop :=
  ∃ r, r.length = n ∧ Num.Lim r ∧ Num.val r + Num.K ^ n * cr = Num.val ((l.drop off).take n) + limb * Num.val lb ∧ Wr e g off l r w w'
theorem mul_bound (x y : Nat) (hx : x < 4294967296) (hy : y < 4294967296) : x * y ≤ 18446744065119617025 := by
  have := Nat.mul_le_mul (show x ≤ 4294967295 by omega) (show y ≤ 4294967295 by omega)
  omega

set_option maxHeartbeats 1000000 in
theorem addProduct_walk (A : Option Addr) (g off n c c' limb : Nat) (l lb : List Nat) (w : World) (hown : Own 46 w g l) (hfit : off + n ≤ l.length) (hc : n ≤ 9223372036854775807) (hb : Cel w (· ≠ g) A lb) (hm : lb.length = n) (hL : Num.Lim l) (hLb : Num.Lim lb) (hlimb : limb < 4294967296) :
    Calls Tryd.prog 72 #[.slice (some ⟨g, off, none⟩) n c, .slice A n c', .int .u32 (limb : Int)] w fun e w' => ∃ cr : Nat, cr < 4294967296 ∧ e = .returned (.int .u32 (cr : Int)) ∧ ProdPost 46 g off n limb cr l lb w w' := by
  have HL := Lib.hid hL
  have HLb := Lib.hid hLb
  have Hm := Lib.hid hm
  clear hm hL hLb
  go_enter Tryd.func72, Tryd.ntmps72
  go_wp2
  go_loopw [7, 12] (fun cy i wr => ∃ k : Nat, k ≤ n ∧ i = .int .i64 k ∧ ∃ cr : Nat, cr < 4294967296 ∧ cy = .int .u64 cr ∧ ProdInv 46 g off k cr limb l lb w wr) (fun _ i _ => n - (intOf i).toNat)
  case atStart => exact ⟨0, Nat.zero_le _, rfl, 0, by omega, rfl, ProdInv.start hown⟩
  case round =>
    obtain ⟨k, hk, rfl, cr, hcr, rfl, hinv⟩ := hrel
    by_cases hlt : k < n
    · obtain ⟨x, hx⟩ : ∃ x, l[off + k]? = some x := ⟨_, List.getElem?_eq_getElem (by omega)⟩
      have hxb : x < 4294967296 := HL.out.at hx
      have hcell := hinv.cell hx
      have hfr := hinv.frozen (off + k)
      have Hx := Lib.hid hx
      clear hx
      obtain ⟨g', off', rfl, hg', hcb⟩ := hb (by have := Hm.out; omega)
      obtain ⟨y, hy⟩ : ∃ y, lb[k]? = some y := ⟨_, List.getElem?_eq_getElem (by have := Hm.out; omega)⟩
      have hyb : y < 4294967296 := HLb.out.at hy
      have hcelly := hinv.other hg' (hcb _ _ hy)
      have Hy := Lib.hid hy
      clear hy hcb
      have hp0 : (0 : Int) ≤ (y : Int) * (limb : Int) := Int.mul_nonneg (by omega) (by omega)
      have hp1 : (y : Int) * (limb : Int) ≤ 18446744065119617025 := by have := mul_bound y limb hyb hlimb; rw [← Int.natCast_mul]; omega
      have HP := Lib.hid (Int.natCast_mul y limb)
      have HB := Lib.hid (mul_bound y limb hyb hlimb)
      go_wp2
      go_roundw
      case rel =>
        have e1 := HP.out
        have e2 := HB.out
        exact ⟨k + 1, by omega, by go_num, (cr + (y * limb + x)) / 4294967296, by omega, int_u64 (by omega), hinv.step Hx.out Hy.out _ (by omega)⟩
      case measure => simp [intOf]; omega
    · obtain rfl : k = n := by omega
      go_wp2
      go_ret
      obtain ⟨r, hk, hr, hv, hw⟩ := hinv
      refine ⟨cr, hcr, ?_, r, hk, hr, ?_, hw⟩
      · first | rfl | (congr 2; omega)
      · rw [hv, List.take_of_length_le (l := lb) (by have := Hm.out; omega)]

/-- The loop of Mul: k limbs of the first number are done. -/
def MulInv (e : TypeId) (g N k m : Nat) (la lb : List Nat) (w wr : World) : Prop :=
  ∃ l, l.length = N ∧ Num.Lim l ∧ Num.val (l.take (k + m)) = Num.val (la.take k) * Num.val lb ∧ Own e wr g l ∧ w.grownBy wr (some g)
theorem mul_num (T P R Km cr D limb A B : Nat) (h : R + Km * cr = D + limb * B) (h2 : T + P * D = A * B) : T + P * (R + Km * cr) = (A + P * limb) * B := by
  rw [h, Nat.mul_add, ← Nat.add_assoc, h2, Nat.add_mul, Nat.mul_assoc]
theorem take_mid (l r : List Nat) (k : Nat) (h : k + r.length ≤ l.length) : (mid l k r).take (k + r.length) = l.take k ++ r := by
  unfold mid
  rw [← List.append_assoc, List.take_append_of_le_length (by simp; omega), List.take_of_length_le (by simp; omega)]
theorem MulInv.step {e : TypeId} {g N k m limb cr : Nat} {la lb l : List Nat} {w wr w2 : World} (hl : l.length = N) (hL : Num.Lim l) (hv : Num.val (l.take (k + m)) = Num.val (la.take k) * Num.val lb) (hg : w.grownBy wr (some g))
    (hx : la[k]? = some limb) (hm : k + m < N) (hcr : cr < 4294967296) (h : ProdPost e g k m limb cr l lb wr w2) :
    MulInv e g N (k + 1) m la lb w (w2.setCell ⟨g, k + m, none⟩ (.int .u32 (cr : Int))) := by
  obtain ⟨r, hr, hLr, hvr, ho, hg2⟩ := h
  have hmid : (mid l k r).length = N := by rw [mid_length l k r (by omega)]; exact hl
  refine ⟨(mid l k r).set (k + m) cr, by rw [List.length_set]; exact hmid, (mid_lim hL hLr).set _ _ hcr, ?_, ho.set_ _ _, only_setCell (only_trans hg hg2) _ _⟩
  have e1 : ((mid l k r).set (k + m) cr)[k + m]? = some cr := by rw [List.getElem?_set_self (by omega)]
  have e2 : ((mid l k r).set (k + m) cr).take (k + m) = l.take k ++ r := by
    rw [List.take_set_of_le (Nat.le_refl _), ← hr]
    exact take_mid l r k (by omega)
  have hlk : (l.take k).length = k := by rw [List.length_take]; omega
  have hs : Num.val (l.take (k + m)) = Num.val (l.take k) + Num.K ^ k * Num.val ((l.drop k).take m) := by
    rw [List.take_add, Num.val_append, hlk]
  rw [show k + 1 + m = k + m + 1 from by omega, val_take_succ _ _ _ e1, e2, Num.val_append, hlk, val_take_succ la k limb hx, Nat.pow_add, Nat.add_assoc, Nat.mul_assoc, ← Nat.mul_add]
  rw [hs] at hv
  exact mul_num _ _ _ _ _ _ _ _ _ hvr hv

set_option maxHeartbeats 1000000 in
theorem mul_walk (va vb : Value) (la lb : List Nat) (w : World) (ha : Rd w (fun _ => True) va la) (hb : Rd w (fun _ => True) vb lb) (hla : la.length ≤ 10000000) (hlb : lb.length ≤ 10000000) :
    Calls Tryd.prog 55 #[va, vb] w fun e w' => ∃ v, e = .returned v ∧ Res w w' v (Num.val la * Num.val lb) := by
  obtain ⟨i0, hi, hz0, hz1, hz2⟩ := info_parts info_u32
  obtain ⟨A, n, c, rfl, Hn, hnc, hc, HLa, hA⟩ := ha.open_
  obtain ⟨B, m, d, rfl, Hm, hmd, hd, HLb, hB⟩ := hb.open_
  have hn : n ≤ 10000000 := by have := Hn.out; omega
  have hm : m ≤ 10000000 := by have := Hm.out; omega
  clear hla hlb ha hb
  go_enter Tryd.func55, Tryd.ntmps55
  go_wp2_with fail
  refine (trim_walk _ A n c la _ Hn.out.symm hnc hc hA).mono ?_
  rintro e w' ⟨⟨k1, hk1, rfl, hza, hna⟩, rfl⟩
  go_wp2_with fail
  refine (trim_walk _ B m d lb _ Hm.out.symm hmd hd hB).mono ?_
  rintro e w' ⟨⟨k2, hk2, rfl, hzb, hnb⟩, rfl⟩
  have Hva := Lib.hid (hza.val (by have := Hn.out; omega))
  have Hvb := Lib.hid (hzb.val (by have := Hm.out; omega))
  have La : Hid ((la.take k1).length = k1) := by show _ = _; have := Hn.out; rw [List.length_take]; omega
  have Lb : Hid ((lb.take k2).length = k2) := by show _ = _; have := Hm.out; rw [List.length_take]; omega
  have hA1 := hA.take k1
  have hB1 := (hB.take k2).old
  have HLa1 : Hid (Num.Lim (la.take k1)) := HLa.out.take _
  have HLb1 : Hid (Num.Lim (lb.take k2)) := HLb.out.take _
  obtain ⟨la1, hla1⟩ : ∃ l, l = la.take k1 := ⟨_, rfl⟩
  obtain ⟨lb1, hlb1⟩ : ∃ l, l = lb.take k2 := ⟨_, rfl⟩
  rw [← hla1] at La Hva hA1 HLa1
  rw [← hlb1] at Lb Hvb hB1 HLb1
  clear hla1 hlb1 hA hB hna hnb hza hzb
  go_wp2_with (at_make; refine wpList_make_u32 _ rfl (.tmp 17) (.tmp 17) 23 rfl 46 i0 Tryd.underlying23 hi hz0 hz1 hz2 .i64 .i64 _ _ (k1 + k2) rfl rfl (by omega) (by omega) (by omega) ?_; intro g w1 hg1 hown1 hb1 hs1; have Hg := Lib.hid hg1; clear hg1)
  have hA2 : Cel w1 (· ≠ g) A la1 := hA1.old.keep (fun i hi => by have := Hg.out; have := hi.2; omega) (fun i o hi => hb1.cell (p := ⟨i, o, none⟩) hi.2)
  have hB2 : Cel w1 (· ≠ g) B lb1 := hB1.keep (fun i hi => by have := Hg.out; have := hi.2; omega) (fun i o hi => hb1.cell (p := ⟨i, o, none⟩) hi.2)
  go_loopw [21] (fun i wr => ∃ k : Nat, k ≤ k1 ∧ i = .int .i64 k ∧ MulInv 46 g (k1 + k2) k k2 la1 lb1 w1 wr) (fun i _ => k1 - (intOf i).toNat)
  case atStart => exact ⟨0, Nat.zero_le _, rfl, _, by simp, Num.Lim.replicate _, by simp [Num.val, List.take_replicate, Num.val_replicate], hown1, only_refl _ _⟩
  case round =>
    obtain ⟨k, hk, rfl, l, hl, hL, hv, hown, hgr⟩ := hrel
    have Hl := Lib.hid hl
    have HL := Lib.hid hL
    have Hv := Lib.hid hv
    clear hl hL hv
    by_cases hlt : k < k1
    · obtain ⟨x, hx⟩ : ∃ x, la1[k]? = some x := ⟨_, List.getElem?_eq_getElem (by have := La.out; omega)⟩
      have hxb : x < 4294967296 := HLa1.out.at hx
      obtain ⟨g', off', rfl, hg', hca⟩ := hA2 (by have := La.out; omega)
      have hcx := only_cell hgr hg' (hca _ _ hx)
      have Hx := Lib.hid hx
      clear hx hca
      go_wp2_with fail
      refine (addProduct_walk B g k k2 _ d x l lb1 _ hown (by have := Hl.out; omega) (by omega) (hB2.only (fun _ h => h) hgr) Lb.out HL.out HLb1.out hxb).mono ?_
      rintro e w2 ⟨cr, hcr, rfl, hpost⟩
      have hcell : ∃ u, w2.cell? ⟨g, k + k2, none⟩ = some u := by
        obtain ⟨r, hr, _, _, ho, _⟩ := hpost
        have := ho.cel (k + k2) _ (List.getElem?_eq_getElem (by rw [mid_length l k r (by have := Hl.out; omega)]; have := Hl.out; omega))
        rw [Nat.zero_add] at this
        exact ⟨_, this⟩
      have hfr : w2.frozen? ⟨g, k + k2, none⟩ = false := by
        obtain ⟨r, hr, _, _, ho, _⟩ := hpost
        exact ho.frozen _
      obtain ⟨u, hu⟩ := hcell
      have hstep := MulInv.step (N := k1 + k2) Hl.out HL.out Hv.out hgr Hx.out (by omega) hcr hpost
      clear hpost hown
      go_wp2
      go_roundw
      case rel => exact ⟨k + 1, by omega, by go_num, hstep⟩
      case measure => simp [intOf]; omega
    · have hkk : k = k1 := by omega
      have Hkk := Lib.hid hkk
      clear hkk
      go_wp2_with fail
      refine (trim_walk (fun _ => True) (some ⟨g, 0, none⟩) (k1 + k2) (k1 + k2) l wr (by have := Hl.out; omega) (Nat.le_refl _) (by omega) hown.celTop).mono ?_
      rintro e w4 ⟨⟨j, hj, rfl, hz, hnr⟩, rfl⟩
      go_wp2
      go_ret
      have hll : k1 + k2 = l.length := by have := Hl.out; omega
      refine ⟨_, rfl, l.take j, hown.rdTake _ trivial HL.out j (k1 + k2) (by omega) hj (by omega), hnr, ?_, ?_⟩
      · have h1 := Hv.out
        rw [Hkk.out, List.take_of_length_le (l := l) (by omega), List.take_of_length_le (l := la1) (by have := La.out; omega)] at h1
        rw [hz.val (by omega), h1, Hva.out, Hvb.out]
      · exact hb1.trans ⟨hgr.os, hgr.tape, hgr.output, hgr.size, fun i hi => hgr.block i (Nat.lt_of_lt_of_le hi hb1.size) (by intro e; injection e with e; have := Hg.out; omega)⟩
end Go.Proofs.YthcoemkbdllcfaaDoor
