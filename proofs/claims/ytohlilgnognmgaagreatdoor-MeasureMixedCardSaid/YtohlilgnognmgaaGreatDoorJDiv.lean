import Derived.Test.YtohlilgnognmgaaGreatDoorJNum
import Derived.Laws.BitsAllLaws
import Derived.Laws.BitsLemmas
import Derived.Lib.BitFns
import Derived.Test.YtohlilgnognmgaaGreatDoorShelf
/-
  The walks of natural.divideByLimb, shiftLeft and shiftRight.
-/
namespace Go.Proofs.YtohlilgnognmgaaGreatDoor
open Go.RowKit

/-- A call returns a number in memory of its own, whose limbs satisfy f. -/
def RetNew (w : World) (f : List Nat → Prop) (e : Ending) (w' : World) : Prop := ∃ v r, e = .returned v ∧ New w w' v r ∧ f r
theorem or_word (a x : Nat) (ha : a < 4294967296) (hx : x < 4294967296) : bits .or .u64 ((a : Int) * 4294967296) (x : Int) = (a : Int) * 4294967296 + x := by
  have h := u64_or_nat (a * 4294967296) x (by omega) (by omega)
  rw [nat_join 32 (a * 4294967296) x (by omega) (by omega)] at h
  simpa using h
theorem mid_front (l q : List Nat) (k x : Nat) (hk : k < l.length) : (mid l (k + 1) q).set k x = mid l k (x :: q) := by
  unfold mid
  rw [List.take_add_one, List.getElem?_eq_getElem hk]
  simp only [Option.toList]
  have e : (l.take k).length = k := by simp; omega
  rw [List.append_assoc, List.set_append_right _ _ (by omega), e]
  simp [show k + 1 + q.length = k + (q.length + 1) from by omega]
theorem mid_before (l q : List Nat) (k j : Nat) (hk : k ≤ l.length) (hj : j < k) : (mid l k q)[j]? = l[j]? := by
  unfold mid
  rw [List.getElem?_append_left (by simp; omega), List.getElem?_take_of_lt hj]
/-- The loop of divideByLimb: the limbs from k on are divided. -/
def LimbInv (e : TypeId) (g k n d rest : Nat) (l : List Nat) (w wr : World) : Prop :=
  ∃ q, k + q.length = n ∧ Num.Lim q ∧ Num.val ((l.take n).drop k) = d * Num.val q + rest ∧ Own e wr g (mid l k q) ∧ w.grownBy wr (some g)
section
variable {e : TypeId} {g k n d rest : Nat} {l : List Nat} {w wr : World}
theorem LimbInv.start (h : Own e w g l) (hn : n ≤ l.length) : LimbInv e g n n d 0 l w w :=
  ⟨[], rfl, Num.Lim.nil, by rw [List.drop_of_length_le (by simp; omega)]; simp [Num.val], by rw [mid_nil]; exact h, only_refl _ _⟩
theorem LimbInv.cell (h : LimbInv e g (k + 1) n d rest l w wr) (hn : n ≤ l.length) {x : Nat} (hx : l[k]? = some x) : wr.cell? ⟨g, k, none⟩ = some (.int .u32 (x : Int)) := by
  obtain ⟨q, hk, _, _, ho, _⟩ := h
  have := ho.cel k x (by rw [mid_before l q (k + 1) k (by omega) (by omega)]; exact hx)
  rwa [Nat.zero_add] at this
theorem LimbInv.frozen (h : LimbInv e g k n d rest l w wr) (i : Nat) : wr.frozen? ⟨g, i, none⟩ = false := by
  obtain ⟨q, hk, _, _, ho, _⟩ := h
  exact ho.frozen i
theorem limb_num (V K d q rest x t dg r : Nat) (hv : V = d * q + rest) (ht : t = rest * K + x) (hd : t = d * dg + r) : x + K * V = d * (dg + K * q) + r := by
  subst hv
  rw [Nat.mul_add, Nat.mul_add, ← Nat.mul_assoc, ← Nat.mul_assoc, Nat.mul_comm K d, Nat.mul_comm K rest]
  omega
theorem LimbInv.step (h : LimbInv e g (k + 1) n d rest l w wr) (hn : n ≤ l.length) {x : Nat} (hx : l[k]? = some x) (hr : rest < d) (hxb : x < 4294967296) (z : Int) (hz : z = (((rest * 4294967296 + x) / d : Nat) : Int)) :
    LimbInv e g k n d ((rest * 4294967296 + x) % d) l w (wr.setCell ⟨g, k, none⟩ (.int .u32 z)) := by
  obtain ⟨q, hk, hq, hv, ho, hg⟩ := h
  subst hz
  have hlt := (List.getElem?_eq_some_iff.1 hx).1
  have hdg : (rest * 4294967296 + x) / d < Num.K := by
    rw [Nat.div_lt_iff_lt_mul (by omega), Num.K_eq]
    have := Nat.mul_le_mul_right 4294967296 (show rest + 1 ≤ d from hr)
    rw [Nat.mul_comm 4294967296 d]
    omega
  refine ⟨_ :: q, by simp; omega, Num.Lim.cons hdg hq, ?_, by rw [← mid_front l q k _ hlt]; exact ho.set_ _ _, only_setCell hg _ _⟩
  have hkn : k < (l.take n).length := by simp; omega
  have e1 : (l.take n).drop k = x :: (l.take n).drop (k + 1) := by
    rw [List.drop_eq_getElem_cons hkn]
    congr 1
    have h1 : (l.take n)[k]? = some x := by rw [List.getElem?_take_of_lt (by omega)]; exact hx
    exact (List.getElem?_eq_some_iff.1 h1).2
  rw [e1, Num.val_cons, Num.val_cons]
  exact limb_num _ _ _ _ _ _ _ _ _ hv (by rw [Num.K_eq]) (Nat.div_add_mod _ _).symm
end
theorem limb_lt (r x d : Nat) (hr : r < d) (hx : x < 4294967296) : (r * 4294967296 + x) / d < 4294967296 := by
  rw [Nat.div_lt_iff_lt_mul (by omega)]
  have := Nat.mul_le_mul_right 4294967296 (show r + 1 ≤ d from hr)
  rw [Nat.mul_comm 4294967296 d]
  omega
theorem limb_digit (r x d : Nat) (hr : r < d) (hx : x < 4294967296) : ((r : Int) * 4294967296 + x) / d % 4294967296 = (((r * 4294967296 + x) / d : Nat) : Int) := by
  have h := limb_lt r x d hr hx
  have e : ((r : Int) * 4294967296 + x) / d = (((r * 4294967296 + x) / d : Nat) : Int) := by simp
  rw [e]
  generalize (r * 4294967296 + x) / d = q at h ⊢
  omega
/-- What divideByLimb leaves: the quotient in the first n limbs. -/
def LimbPost (e : TypeId) (g n d : Nat) (l : List Nat) (w w' : World) : Prop :=
  ∃ q, q.length = n ∧ Num.Lim q ∧ Num.val q = Num.val (l.take n) / d ∧ Own e w' g (mid l 0 q) ∧ w.grownBy w' (some g)
def LimbEnd (t : TypeId) (g n d : Nat) (l : List Nat) (w : World) (e : Ending) (w' : World) : Prop := ∃ m : Nat, m = Num.val (l.take n) % d ∧ e = .returned (.int .u32 (m : Int)) ∧ LimbPost t g n d l w w'

set_option maxHeartbeats 1000000 in
theorem divideByLimb_walk (g n c d : Nat) (l : List Nat) (w : World) (hown : Own 45 w g l) (hfit : n ≤ l.length) (hc : n ≤ 9223372036854775807) (hL : Num.Lim l) (hd : 0 < d) (hdb : d < 4294967296) :
    Calls Tryz.prog 87 #[.slice (some ⟨g, 0, none⟩) n c, .int .u32 (d : Int)] w (LimbEnd 45 g n d l w) := by
  have HL := Lib.hid hL
  clear hL
  go_enter Tryz.func87, Tryz.ntmps87
  go_wp2
  go_loopw [5, 6] (fun cy i wr => ∃ k : Nat, k ≤ n ∧ i = .int .i64 ((k : Int) - 1) ∧ ∃ r : Nat, r < d ∧ cy = .int .u64 r ∧ LimbInv 45 g k n d r l w wr) (fun _ i _ => (intOf i + 1).toNat)
  case atStart => exact ⟨n, Nat.le_refl _, rfl, 0, hd, rfl, LimbInv.start hown hfit⟩
  case round =>
    obtain ⟨k, hk, rfl, r, hr, rfl, hinv⟩ := hrel
    by_cases h0 : k = 0
    · have hk0 : ¬ 0 ≤ (k : Int) - 1 := by omega
      have Hk := Lib.hid h0
      clear h0
      go_wp2
      go_ret
      rw [Hk.out] at hinv
      obtain ⟨q, hq, hLq, hv, ho, hg⟩ := hinv
      rw [List.drop_zero] at hv
      refine ⟨r, ?_, ?_, q, by omega, hLq, ?_, ho, hg⟩
      · rw [hv, Nat.mul_add_mod, Nat.mod_eq_of_lt hr]
      · first | rfl | (congr 2; omega)
      · rw [hv, Nat.mul_add_div hd, Nat.div_eq_of_lt hr, Nat.add_zero]
    · obtain ⟨k, rfl⟩ : ∃ j, k = j + 1 := ⟨k - 1, by omega⟩
      have hk0 : 0 ≤ ((k + 1 : Nat) : Int) - 1 := by omega
      have hkt : (((k + 1 : Nat) : Int) - 1).toNat = k := by omega
      obtain ⟨x, hx⟩ : ∃ x, l[k]? = some x := ⟨_, List.getElem?_eq_getElem (by omega)⟩
      have hxb : x < 4294967296 := HL.out.at hx
      have hcell := hinv.cell hfit hx
      have hfr := hinv.frozen k
      have Hx := Lib.hid hx
      have hor := or_word r x (by omega) hxb
      clear hx h0
      have HZ := Lib.hid (limb_digit r x d hr hxb)
      go_wp2
      go_roundw
      case rel => exact ⟨k, by omega, rfl, (r * 4294967296 + x) % d, Nat.mod_lt _ hd, int_u64 (by simp), hinv.step hfit Hx.out hr hxb _ HZ.out⟩
      case measure => simp [intOf] <;> omega
/-- A limb x that is shifted by s, over h, which is below 2^s: the low limb and the high one. -/
theorem shl_word (x h s : Nat) (hx : x < 4294967296) (hh : h < 2 ^ s) (hs : s ≤ 31) :
    ∃ lo hi : Nat, bits .or .u32 (h : Int) (IntKind.u64.wrap ((x : Int) * 2 ^ s) % 4294967296) = (lo : Int) ∧ IntKind.u64.wrap ((x : Int) * 2 ^ s) / 4294967296 % 4294967296 = (hi : Int) ∧ lo + Num.K * hi = h + x * 2 ^ s ∧ lo < Num.K ∧ hi < 2 ^ s := by
  have hp : 2 ^ s ≤ 2147483648 := Nat.le_trans (Nat.pow_le_pow_right (by omega) hs) (by decide)
  have hpd : 2 ^ s ∣ 4294967296 := by
    have : (2 : Nat) ^ s ∣ 2 ^ 32 := Nat.pow_dvd_pow 2 (by omega)
    simpa using this
  have h0 : 0 < 2 ^ s := Nat.pow_pos (by omega)
  have hc : (x : Int) * 2 ^ s = ((x * 2 ^ s : Nat) : Int) := by simp
  have hm : x * 2 ^ s < 4294967296 * 2 ^ s := Nat.mul_lt_mul_of_pos_right hx h0
  have hlow : x * 2 ^ s % 4294967296 % 2 ^ s = 0 := by rw [Nat.mod_mod_of_dvd _ hpd, Nat.mul_mod_left]
  have hhi : x * 2 ^ s / 4294967296 < 2 ^ s := by rw [Nat.div_lt_iff_lt_mul (by omega), Nat.mul_comm (2 ^ s) 4294967296]; exact hm
  have hw : IntKind.u64.wrap ((x : Int) * 2 ^ s) = ((x * 2 ^ s : Nat) : Int) := by rw [hc, IntKind.wrap_u64]; omega
  have hdm := Nat.mod_add_div (x * 2 ^ s) 4294967296
  have hlo : h + x * 2 ^ s % 4294967296 < 4294967296 := by
    obtain ⟨c, hcc⟩ := hpd
    have hd1 : x * 2 ^ s % 4294967296 = 2 ^ s * (x * 2 ^ s % 4294967296 / 2 ^ s) := by
      have := Nat.div_add_mod (x * 2 ^ s % 4294967296) (2 ^ s)
      omega
    have hlt : x * 2 ^ s % 4294967296 < 4294967296 := Nat.mod_lt _ (by omega)
    generalize x * 2 ^ s % 4294967296 / 2 ^ s = j at hd1
    have hjc : j < c := by
      rcases Nat.lt_or_ge j c with h | h
      · exact h
      · have := Nat.mul_le_mul_left (2 ^ s) h
        omega
    have := Nat.mul_le_mul_left (2 ^ s) (show j + 1 ≤ c from hjc)
    rw [Nat.mul_add, Nat.mul_one] at this
    omega
  refine ⟨h + x * 2 ^ s % 4294967296, x * 2 ^ s / 4294967296, ?_, ?_, by rw [Num.K_eq]; omega, by rw [Num.K_eq]; exact hlo, hhi⟩
  · rw [hw]
    have e : ((x * 2 ^ s : Nat) : Int) % 4294967296 = ((x * 2 ^ s % 4294967296 : Nat) : Int) := by omega
    rw [e, u32_or_nat _ _ (by omega) (Nat.mod_lt _ (by omega)), Nat.or_comm, nat_join s _ _ hlow hh]
    omega
  · rw [hw]
    generalize x * 2 ^ s = t at hm hhi ⊢
    omega
theorem shl_num (T P K h L x s lo hi : Nat) (hv : T + P * h = L * s) (he : lo + K * hi = h + x * s) : T + P * lo + P * K * hi = (L + P * x) * s := by
  have := congrArg (P * ·) he
  simp only [Nat.mul_add, Nat.add_mul, ← Nat.mul_assoc] at this ⊢
  omega

/-- The loop of shiftLeft: k limbs are done. -/
def ShlInv (e : TypeId) (g k s n : Nat) (la : List Nat) (w wr : World) : Prop :=
  ∃ l h, l.length = n + 1 ∧ Num.Lim l ∧ Num.val (l.take (k + 1)) = Num.val (la.take k) * 2 ^ s ∧ l[k]? = some h ∧ h < 2 ^ s ∧ Own e wr g l ∧ w.grownBy wr (some g)

set_option maxHeartbeats 1000000 in
theorem shiftLeft_walk (A : Option Addr) (n c s : Nat) (l : List Nat) (w : World) (hn : l.length = n) (hnc : n ≤ c) (_hc : c ≤ 9223372036854775807) (hnb : n ≤ 20000000) (hA : Cel w (fun _ => True) A l) (hL : Num.Lim l) (hs : s ≤ 31) :
    Calls Tryz.prog 106 #[.slice A n c, .int .i64 (s : Int)] w (RetNew w fun r => r.length = n + 1 ∧ Num.Lim r ∧ Num.val r = Num.val l * 2 ^ s ∧ ∃ h, r[n]? = some h ∧ h < 2 ^ s) := by
  obtain ⟨i0, hi, hz0, hz1, hz2⟩ := info_parts info_u32
  have HL := Lib.hid hL
  have Hn := Lib.hid hn
  clear hL hn
  go_enter Tryz.func106, Tryz.ntmps106
  go_wp2_with (at_make; refine wpList_make_u32 _ rfl (.tmp 11) (.tmp 11) 23 rfl 45 i0 Tryz.underlying23 hi hz0 hz1 hz2 .i64 .i64 _ _ (n + 1) rfl rfl (by omega) (by omega) (by omega) ?_; intro g w1 hg1 hown1 hb1 hs1; have Hg := Lib.hid hg1; clear hg1)
  have hA2 : Cel w1 (· ≠ g) A l := hA.old.keep (fun i hi => by have := Hg.out; have := hi.2; omega) (fun i o hi => hb1.cell (p := ⟨i, o, none⟩) hi.2)
  go_loopw [15] (fun i wr => ∃ k : Nat, k ≤ n ∧ i = .int .i64 k ∧ ShlInv 45 g k s n l w1 wr) (fun i _ => n - (intOf i).toNat)
  case atStart => exact ⟨0, Nat.zero_le _, rfl, _, 0, by simp, Num.Lim.replicate _, by simp [List.take_replicate, Num.val], by simp, Nat.pow_pos (by omega), hown1, only_refl _ _⟩
  case round =>
    obtain ⟨k, hk, rfl, la, h, hla, hLa, hv, hh, hhs, hown, hgr⟩ := hrel
    have Hla := Lib.hid hla
    have HLa := Lib.hid hLa
    have Hv := Lib.hid hv
    clear hla hLa hv
    by_cases hlt : k < n
    · obtain ⟨x, hx⟩ : ∃ x, l[k]? = some x := ⟨_, List.getElem?_eq_getElem (by have := Hn.out; omega)⟩
      have hxb : x < 4294967296 := HL.out.at hx
      obtain ⟨g', off', rfl, hg', hca⟩ := hA2 (by have := Hn.out; omega)
      have hcx := only_cell hgr hg' (hca _ _ hx)
      have hch := hown.cel _ _ hh
      rw [Nat.zero_add] at hch
      have hf1 := hown.frozen k
      have hf2 := hown.frozen (k + 1)
      obtain ⟨y, hy⟩ : ∃ y, la[k + 1]? = some y := ⟨_, List.getElem?_eq_getElem (by have := Hla.out; omega)⟩
      have hcy := hown.cel _ _ hy
      rw [Nat.zero_add] at hcy
      have Hx := Lib.hid hx
      have Hh := Lib.hid hh
      clear hx hca hy hh
      have HS := Lib.hid (shl_word x h s hxb hhs hs)
      go_wp2
      go_roundw
      case rel =>
        obtain ⟨lo, hi', e1, e2, e3, e4, e5⟩ := HS.out
        rw [e1, e2]
        refine ⟨k + 1, by omega, by go_num, (la.set k lo).set (k + 1) hi', hi', by simp [Hla.out], (HLa.out.set _ _ e4).set _ _ (Nat.lt_of_lt_of_le e5 (Nat.le_trans (Nat.pow_le_pow_right (by omega) hs) (by decide))), ?_, by rw [List.getElem?_set_self (by simp [Hla.out]; omega)], e5, (hown.set_ _ _).set_ _ _, only_setCell (only_setCell hgr _ _) _ _⟩
        rw [val_take_succ _ (k + 1) hi' (by rw [List.getElem?_set_self (by simp [Hla.out]; omega)]), List.take_set_of_le (Nat.le_refl _), val_take_succ _ k lo (by rw [List.getElem?_set_self (by simp [Hla.out]; omega)]), List.take_set_of_le (Nat.le_refl _), val_take_succ l k x Hx.out]
        have h1 := Hv.out
        rw [val_take_succ la k h Hh.out] at h1
        rw [Nat.pow_succ]
        exact shl_num _ _ _ _ _ _ _ _ _ h1 e3
      case measure => simp [intOf] <;> omega
    · have hkk : k = n := by omega
      have Hkk := Lib.hid hkk
      clear hkk
      go_wp2
      go_ret
      have e1 := Hkk.out
      subst e1
      refine ⟨_, la, rfl, ⟨g, by rw [Hla.out]; rfl, by have := Hg.out; omega, hown, hb1.trans ⟨hgr.os, hgr.tape, hgr.output, hgr.size, fun i hi => hgr.block i (Nat.lt_of_lt_of_le hi hb1.size) (by intro e; injection e with e; have := Hg.out; omega)⟩⟩, Hla.out, HLa.out, ?_, h, hh, hhs⟩
      have h1 := Hv.out
      rwa [List.take_of_length_le (by have := Hla.out; omega), List.take_of_length_le (by have := Hn.out; omega)] at h1
theorem shr_num (x V K p : Nat) (hK : 0 < K) (hp : 0 < p) (hd : p ∣ K) (hx : x < K) : ((V % K) * K + x) / p % K + K * (V / p) = (x + K * V) / p := by
  obtain ⟨u, rfl⟩ := hd
  have hV := Nat.div_add_mod V (p * u)
  have e1 : ((V % (p * u)) * (p * u) + x) / p / (p * u) = V % (p * u) / p := by
    rw [Nat.div_div_eq_div_mul, Nat.mul_comm p (p * u), ← Nat.div_div_eq_div_mul, Nat.add_comm, Nat.add_mul_div_right _ _ hK, Nat.div_eq_of_lt hx, Nat.zero_add]
  have e2 : x + p * u * V = (V % (p * u)) * (p * u) + x + p * (u * (p * u) * (V / (p * u))) := by
    have := congrArg ((p * u) * ·) hV
    simp only [Nat.mul_add] at this
    rw [← this, Nat.mul_comm (V % (p * u)) (p * u)]
    have : p * (u * (p * u) * (V / (p * u))) = p * u * (p * u * (V / (p * u))) := by simp only [Nat.mul_assoc]
    omega
  have e3 : V / p = V % (p * u) / p + u * (V / (p * u)) := by
    have : V = V % (p * u) + p * (u * (V / (p * u))) := by rw [← Nat.mul_assoc]; omega
    rw [show V / p = (V % (p * u) + p * (u * (V / (p * u)))) / p from by rw [← this], Nat.add_mul_div_left _ _ hp]
  rw [e2, Nat.add_mul_div_left _ _ hp, e3, Nat.mul_add, ← e1]
  have h := Nat.mod_add_div ((V % (p * u) * (p * u) + x) / p) (p * u)
  have e4 : p * u * (u * (V / (p * u))) = u * (p * u) * (V / (p * u)) := by
    rw [← Nat.mul_assoc, Nat.mul_comm (p * u) u]
  omega
theorem shr_word (c x : Nat) (hx : x < 4294967296) : ∃ W : Nat, W = (c % 4294967296) * 4294967296 + x ∧ W < 18446744073709551616 ∧ bits .or .u64 (IntKind.u64.wrap ((c : Int) * 4294967296)) (x : Int) = (W : Int) := by
  refine ⟨_, rfl, by omega, ?_⟩
  have e : IntKind.u64.wrap ((c : Int) * 4294967296) = ((c % 4294967296 : Nat) : Int) * 4294967296 := by rw [IntKind.wrap_u64]; omega
  rw [e, or_word _ _ (Nat.mod_lt _ (by omega)) hx]
  omega
/-- The loop of shiftRight: the limbs from k on are done. -/
def ShrInv (e : TypeId) (g k s n c : Nat) (la : List Nat) (w wr : World) : Prop :=
  ∃ q, k + q.length = n ∧ Num.Lim q ∧ Num.val q = Num.val (la.drop k) / 2 ^ s ∧ c % 4294967296 = Num.val (la.drop k) % 4294967296 ∧ Own e wr g (mid (List.replicate n 0) k q) ∧ w.grownBy wr (some g)
theorem drop_cons {l : List Nat} {k x : Nat} (hx : l[k]? = some x) : l.drop k = x :: l.drop (k + 1) := by
  have hk := (List.getElem?_eq_some_iff.1 hx).1
  rw [List.drop_eq_getElem_cons hk, (List.getElem?_eq_some_iff.1 hx).2]
theorem ShrInv.step {e : TypeId} {g k s n c W x : Nat} {la : List Nat} {w wr : World} (h : ShrInv e g (k + 1) s n c la w wr) (hx : la[k]? = some x) (hxb : x < 4294967296) (hs : s ≤ 31) (hW : W = (c % 4294967296) * 4294967296 + x) (z : Int) (hz : z = ((W / 2 ^ s % 4294967296 : Nat) : Int)) :
    ShrInv e g k s n W la w (wr.setCell ⟨g, k, none⟩ (.int .u32 z)) := by
  obtain ⟨q, hk, hq, hv, hc, ho, hg⟩ := h
  subst hz
  have hpd : 2 ^ s ∣ 4294967296 := by
    have : (2 : Nat) ^ s ∣ 2 ^ 32 := Nat.pow_dvd_pow 2 (by omega)
    simpa using this
  have hn := shr_num x (Num.val (la.drop (k + 1))) 4294967296 (2 ^ s) (by omega) (Nat.pow_pos (by omega)) hpd hxb
  refine ⟨(W / 2 ^ s % 4294967296) :: q, by simp; omega, Num.Lim.cons (Nat.mod_lt _ (by decide)) hq, ?_, ?_, by rw [← mid_front _ q k _ (by simp; omega)]; exact ho.set_ _ _, only_setCell hg _ _⟩
  · rw [drop_cons hx, Num.val_cons, Num.val_cons, hv, hW, hc, Num.K_eq]
    exact hn
  · rw [drop_cons hx, Num.val_cons, hW, Num.K_eq]
    omega

set_option maxRecDepth 4000 in
set_option maxHeartbeats 1000000 in
theorem shiftRight_walk (A : Option Addr) (n c s : Nat) (l : List Nat) (w : World) (hn : l.length = n) (_hnc : n ≤ c) (_hc : c ≤ 9223372036854775807) (hnb : n ≤ 20000000) (hA : Cel w (fun _ => True) A l) (hL : Num.Lim l) (hs : s ≤ 31) :
    Calls Tryz.prog 109 #[.slice A n c, .int .i64 (s : Int)] w (RetNew w fun r => r.length = n ∧ Num.Lim r ∧ Num.val r = Num.val l / 2 ^ s) := by
  obtain ⟨i0, hi, hz0, hz1, hz2⟩ := info_parts info_u32
  have HL := Lib.hid hL
  have Hn := Lib.hid hn
  clear hL hn
  go_enter Tryz.func109, Tryz.ntmps109
  go_wp2_with (at_make; refine wpList_make_u32 _ rfl (.tmp 10) (.tmp 10) 23 rfl 45 i0 Tryz.underlying23 hi hz0 hz1 hz2 .i64 .i64 _ _ n rfl rfl (by omega) (by omega) (by omega) ?_; intro g w1 hg1 hown1 hb1 hs1; have Hg := Lib.hid hg1; clear hg1)
  have hA2 : Cel w1 (· ≠ g) A l := hA.old.keep (fun i hi => by have := Hg.out; have := hi.2; omega) (fun i o hi => hb1.cell (p := ⟨i, o, none⟩) hi.2)
  go_loopw [6, 7] (fun cy i wr => ∃ k : Nat, k ≤ n ∧ i = .int .i64 ((k : Int) - 1) ∧ ∃ cr : Nat, cr < 18446744073709551616 ∧ cy = .int .u64 cr ∧ ShrInv 45 g k s n cr l w1 wr) (fun _ i _ => (intOf i + 1).toNat)
  case atStart => exact ⟨n, Nat.le_refl _, rfl, 0, by omega, rfl, [], rfl, Num.Lim.nil, by rw [List.drop_of_length_le (by have := Hn.out; omega)]; simp [Num.val], by rw [List.drop_of_length_le (by have := Hn.out; omega)]; rfl, by rw [mid_nil]; exact hown1, only_refl _ _⟩
  case round =>
    obtain ⟨k, hk, rfl, cr, hcr, rfl, hinv⟩ := hrel
    by_cases h0 : k = 0
    · have hk0 : ¬ 0 ≤ (k : Int) - 1 := by omega
      have Hk := Lib.hid h0
      clear h0
      go_wp2
      go_ret
      rw [Hk.out] at hinv
      obtain ⟨q, hq, hLq, hv, _, ho, hg⟩ := hinv
      rw [List.drop_zero] at hv
      have hql : q.length = n := by omega
      exact ⟨_, q, rfl, ⟨g, by rw [hql]; rfl, by have := Hg.out; omega, by rwa [mid_whole _ _ (by simp [hql])] at ho, hb1.trans ⟨hg.os, hg.tape, hg.output, hg.size, fun i hi => hg.block i (Nat.lt_of_lt_of_le hi hb1.size) (by intro e; injection e with e; have := Hg.out; omega)⟩⟩, hql, hLq, hv⟩
    · obtain ⟨k, rfl⟩ : ∃ j, k = j + 1 := ⟨k - 1, by omega⟩
      have hk0 : 0 ≤ ((k + 1 : Nat) : Int) - 1 := by omega
      have hkt : (((k + 1 : Nat) : Int) - 1).toNat = k := by omega
      obtain ⟨x, hx⟩ : ∃ x, l[k]? = some x := ⟨_, List.getElem?_eq_getElem (by have := Hn.out; omega)⟩
      have hxb : x < 4294967296 := HL.out.at hx
      obtain ⟨g', off', rfl, hg', hca⟩ := hA2 (by have := Hn.out; omega)
      have hcx : wr.cell? ⟨g', off' + k, none⟩ = some (.int .u32 (x : Int)) := by
        obtain ⟨q, _, _, _, _, _, hg⟩ := hinv
        exact only_cell hg hg' (hca _ _ hx)
      have hfr : wr.frozen? ⟨g, k, none⟩ = false := by
        obtain ⟨q, _, _, _, _, ho, _⟩ := hinv
        exact ho.frozen k
      have hcell : ∃ u, wr.cell? ⟨g, k, none⟩ = some u := by
        obtain ⟨q, hq, _, _, _, ho, _⟩ := hinv
        have := ho.cel k _ (List.getElem?_eq_getElem (by rw [mid_length _ _ _ (by simp; omega)]; simp; omega))
        rw [Nat.zero_add] at this
        exact ⟨_, this⟩
      obtain ⟨u, hu⟩ := hcell
      obtain ⟨W, hW, hWb, hor⟩ := shr_word cr x hxb
      have Hx := Lib.hid hx
      have HW := Lib.hid hW
      clear hx h0 hca hW
      go_wp2
      go_roundw
      case rel => exact ⟨k, by omega, rfl, W, hWb, rfl, hinv.step Hx.out hxb hs HW.out _ (by simp)⟩
      case measure => simp [intOf] <;> omega
end Go.Proofs.YtohlilgnognmgaaGreatDoor
/-
  The walk of natural.subtractProduct.
-/
namespace Go.Proofs.YtohlilgnognmgaaGreatDoor
open Go.RowKit

/-- The loop of subtractProduct. -/
def SpInv (e : TypeId) (g off k br dg : Nat) (l lb : List Nat) (w wr : World) : Prop :=
  ∃ r, r.length = k ∧ Num.Lim r ∧ Num.val r + dg * Num.val (lb.take k) = Num.val ((l.drop off).take k) + Num.K ^ k * br ∧ Wr e g off l r w wr
section
variable {e : TypeId} {g off k br dg : Nat} {l lb : List Nat} {w wr : World}
theorem SpInv.start (h : Own e w g l) : SpInv e g off 0 0 dg l lb w w := ⟨[], rfl, Num.Lim.nil, by simp [Num.val], Wr.start h⟩
theorem SpInv.cell (h : SpInv e g off k br dg l lb w wr) {x : Nat} (hx : l[off + k]? = some x) : wr.cell? ⟨g, off + k, none⟩ = some (.int .u32 (x : Int)) := by
  obtain ⟨r, hk, _, _, hw⟩ := h
  exact hw.cell hk hx
theorem SpInv.frozen (h : SpInv e g off k br dg l lb w wr) (i : Nat) : wr.frozen? ⟨g, i, none⟩ = false := by
  obtain ⟨r, hk, _, _, hw⟩ := h
  exact hw.1.frozen i
theorem SpInv.other (h : SpInv e g off k br dg l lb w wr) {g' o : Nat} (hne : g' ≠ g) {u : Value} (hc : w.cell? ⟨g', o, none⟩ = some u) : wr.cell? ⟨g', o, none⟩ = some u := by
  obtain ⟨r, hk, _, _, hw⟩ := h
  exact only_cell hw.2 hne hc
theorem sp_num (R B L P K br x y dg d br' : Nat) (hv : R + dg * B = L + P * br) (hd : d + (y * dg + br) = x + K * br') : R + P * d + dg * (B + P * y) = L + P * x + P * K * br' := by
  have h := congrArg (P * ·) hd
  simp only [Nat.mul_add, ← Nat.mul_assoc] at h ⊢
  have e1 : P * y * dg = dg * P * y := by rw [Nat.mul_comm (P * y) dg, Nat.mul_assoc]
  omega
theorem SpInv.step (h : SpInv e g off k br dg l lb w wr) {x y : Nat} (hx : l[off + k]? = some x) (hy : lb[k]? = some y) (d br' : Nat) (hd : d + (y * dg + br) = x + Num.K * br') (hdK : d < Num.K) (z : Int) (hz : z = (d : Int)) :
    SpInv e g off (k + 1) br' dg l lb w (wr.setCell ⟨g, off + k, none⟩ (.int .u32 z)) := by
  obtain ⟨r, hk, hr, hv, hw⟩ := h
  have hlt := (List.getElem?_eq_some_iff.1 hx).1
  refine ⟨r ++ [d], by simp [hk], hr.append (Num.Lim.cons hdK Num.Lim.nil), ?_, hw.step hk hlt d z hz⟩
  rw [Num.val_snoc, hk, val_take_succ (l.drop off) k x (by rw [List.getElem?_drop]; exact hx), val_take_succ lb k y hy, Nat.pow_succ]
  exact sp_num _ _ _ _ _ _ _ _ _ _ _ hv hd
end
/-- What subtractProduct leaves; bw: the borrow. -/
def SpPost (t : TypeId) (g off n dg : Nat) (l lb : List Nat) (w : World) (e : Ending) (w' : World) : Prop :=
  ∃ (r : List Nat) (bw : Nat), bw ≤ 1 ∧ e = .returned (.bool (decide (bw = 1))) ∧ r.length = n + 1 ∧ Num.Lim r ∧ Num.val r + dg * Num.val lb = Num.val ((l.drop off).take (n + 1)) + Num.K ^ (n + 1) * bw ∧ Wr t g off l r w w'
theorem sp_word (p x : Nat) (P : Int) (hP : P = (p : Int)) (hp : p ≤ 18446744069414584320) (hx : x < 4294967296) :
    ((x : Int) < P % 4294967296 → ∃ d br' : Nat, P / 4294967296 + 1 = (br' : Int) ∧ br' < 4294967296 ∧ ((x : Int) - P) % 4294967296 = (d : Int) ∧ d + p = x + Num.K * br' ∧ d < Num.K) ∧
    (¬ (x : Int) < P % 4294967296 → ∃ d br' : Nat, P / 4294967296 = (br' : Int) ∧ br' < 4294967296 ∧ (x : Int) - P % 4294967296 = (d : Int) ∧ d + p = x + Num.K * br' ∧ d < Num.K) := by
  subst hP
  simp only [Num.K_eq]
  exact ⟨fun h => ⟨x + 4294967296 - p % 4294967296, p / 4294967296 + 1, by omega, by omega, by omega, by omega, by omega⟩, fun h => ⟨x - p % 4294967296, p / 4294967296, by omega, by omega, by omega, by omega, by omega⟩⟩
theorem prod_le (y dg br : Nat) (hy : y < 4294967296) (hd : dg < 4294967296) (hb : br < 4294967296) : y * dg + br ≤ 18446744069414584320 := by
  have := mul_bound y dg hy hd
  omega
theorem SpInv.last {t : TypeId} {g off n br dg x : Nat} {l lb : List Nat} {w wr : World} (h : SpInv t g off n br dg l lb w wr) (hm : lb.length = n) (hx : l[off + n]? = some x) (d bw : Nat) (hbw : bw ≤ 1) (hd : d + br = x + Num.K * bw) (hdK : d < Num.K) (z : Int) (hz : z = (d : Int)) (e : Ending) (he : e = .returned (.bool (decide (bw = 1)))) :
    SpPost t g off n dg l lb w e (wr.setCell ⟨g, off + n, none⟩ (.int .u32 z)) := by
  obtain ⟨r, hr, hL, hv, hw⟩ := h
  have hlt := (List.getElem?_eq_some_iff.1 hx).1
  refine ⟨r ++ [d], bw, hbw, he, by simp [hr], hL.append (Num.Lim.cons hdK Num.Lim.nil), ?_, hw.step hr hlt d z hz⟩
  rw [List.take_of_length_le (l := lb) (by omega)] at hv
  rw [Num.val_snoc, hr, val_take_succ (l.drop off) n x (by rw [List.getElem?_drop]; exact hx), Nat.pow_succ]
  have := sp_num _ _ _ _ Num.K _ x 0 _ d bw hv (by rw [Nat.zero_mul, Nat.zero_add]; exact hd)
  rwa [Nat.mul_zero, Nat.add_zero] at this

set_option maxHeartbeats 2000000 in
theorem subtractProduct_walk (B : Option Addr) (g off n c d dg : Nat) (l lb : List Nat) (w : World) (hown : Own 45 w g l) (hfit : off + n + 1 ≤ l.length) (hc : n ≤ 1000000000) (hb : Cel w (· ≠ g) B lb) (hm : lb.length = n) (hL : Num.Lim l) (hLb : Num.Lim lb) (hdg : dg < 4294967296) :
    Calls Tryz.prog 108 #[.slice (some ⟨g, off, none⟩) (n + 1) c, .slice B n d, .int .u32 (dg : Int)] w (SpPost 45 g off n dg l lb w) := by
  have HL := Lib.hid hL
  have HLb := Lib.hid hLb
  have Hm := Lib.hid hm
  clear hm hL hLb
  go_enter Tryz.func108, Tryz.ntmps108
  go_wp2
  go_loopw [7, 16] (fun cy i wr => ∃ k : Nat, k ≤ n ∧ i = .int .i64 k ∧ ∃ br : Nat, br < 4294967296 ∧ cy = .int .u64 br ∧ SpInv 45 g off k br dg l lb w wr) (fun _ i _ => n - (intOf i).toNat)
  case atStart => exact ⟨0, Nat.zero_le _, rfl, 0, by omega, rfl, SpInv.start hown⟩
  case round =>
    obtain ⟨k, hk, rfl, br, hbr, rfl, hinv⟩ := hrel
    by_cases hlt : k < n
    · obtain ⟨x, hx⟩ : ∃ x, l[off + k]? = some x := ⟨_, List.getElem?_eq_getElem (by omega)⟩
      have hxb : x < 4294967296 := HL.out.at hx
      have hcell := hinv.cell hx
      have hfr := hinv.frozen (off + k)
      have Hx := Lib.hid hx
      clear hx
      obtain ⟨g', off', rfl, hg', hcb⟩ := hb (by have := Hm.out; omega)
      obtain ⟨y, hy⟩ : ∃ y, lb[k]? = some y := ⟨_, List.getElem?_eq_getElem (by have := Hm.out; omega)⟩
      have hyb : y < 4294967296 := HLb.out.at hy
      have hcelly := hinv.other hg' (hcb _ _ hy)
      have Hy := Lib.hid hy
      clear hy hcb
      have hp0 : (0 : Int) ≤ (y : Int) * (dg : Int) := Int.mul_nonneg (by omega) (by omega)
      have hp1 : (y : Int) * (dg : Int) ≤ 18446744065119617025 := by have := mul_bound y dg hyb hdg; rw [← Int.natCast_mul]; omega
      have HS := Lib.hid (sp_word (y * dg + br) x ((y : Int) * (dg : Int) + (br : Int)) (by simp) (prod_le y dg br hyb hdg hbr) hxb)
      by_cases hb1 : (x : Int) < ((y : Int) * (dg : Int) + (br : Int)) % 4294967296
      · go_wp2
        go_roundw
        case rel =>
          obtain ⟨d, br', h1, h2, h3, h4, h5⟩ := HS.out.1 hb1
          exact ⟨k + 1, by omega, by go_num, br', h2, int_u64 h1, hinv.step Hx.out Hy.out d br' h4 h5 _ h3⟩
        case measure => simp [intOf] <;> omega
      · go_wp2
        go_roundw
        case rel =>
          obtain ⟨d, br', h1, h2, h3, h4, h5⟩ := HS.out.2 hb1
          exact ⟨k + 1, by omega, by go_num, br', h2, int_u64 h1, hinv.step Hx.out Hy.out d br' h4 h5 _ h3⟩
        case measure => simp [intOf] <;> omega
    · have hkk : k = n := by omega
      subst hkk
      obtain ⟨x, hx⟩ : ∃ x, l[off + k]? = some x := ⟨_, List.getElem?_eq_getElem (by omega)⟩
      have hxb : x < 4294967296 := HL.out.at hx
      have hcell := hinv.cell hx
      have hfr := hinv.frozen (off + k)
      have Hx := Lib.hid hx
      clear hx
      by_cases hb1 : (x : Int) < (br : Int)
      · go_wp2
        go_ret
        exact hinv.last Hm.out Hx.out (x + 4294967296 - br) 1 (by omega) (by rw [Num.K_eq]; omega) (by rw [Num.K_eq]; omega) _ (by omega) _ rfl
      · go_wp2
        go_ret
        exact hinv.last Hm.out Hx.out (x - br) 0 (by omega) (by rw [Num.K_eq]; omega) (by rw [Num.K_eq]; omega) _ (by omega) _ rfl
end Go.Proofs.YtohlilgnognmgaaGreatDoor
/-
  Plain arithmetic behind the guessed digit of a long division; no program is named here.
-/
namespace Go.Proofs.YtohlilgnognmgaaGreatDoor
namespace Guess

/-- V is the dividend, D the divisor, T and h their leading parts, P the weight of the rest. -/
structure At (K P h s T p V D : Nat) : Prop where
  hK : 0 < K
  hP : 0 < P
  hh : 0 < h
  hs : s < K
  hp : p < K
  hD1 : P * (s + K * h) ≤ D
  hD2 : D < P * (s + K * h) + P
  hV1 : P * (p + K * T) ≤ V
  hV2 : V < P * (p + K * T) + P
  hVD : V < K * D

variable {K P h s T p V D : Nat}
theorem At.dpos (a : At K P h s T p V D) : 0 < D := by
  have h1 : 0 < s + K * h := Nat.add_pos_right _ (Nat.mul_pos a.hK a.hh)
  exact Nat.lt_of_lt_of_le (Nat.mul_pos a.hP h1) a.hD1
theorem At.q_lt (a : At K P h s T p V D) : V / D < K := by
  rw [Nat.div_lt_iff_lt_mul a.dpos]; exact a.hVD
theorem At.top (a : At K P h s T p V D) : T < K * (h + 1) := by
  have h1 : P * (K * T) < P * (K * (K * (h + 1))) := by
    have e1 : P * (K * T) ≤ P * (p + K * T) := Nat.mul_le_mul_left _ (by omega)
    have e2 : s + K * h + 1 ≤ K * (h + 1) := by rw [Nat.mul_add, Nat.mul_one]; have := a.hs; omega
    have e3 : D < P * (K * (h + 1)) := by
      have := Nat.mul_le_mul_left P e2
      rw [Nat.mul_add, Nat.mul_one] at this
      have := a.hD2
      omega
    have e4 : K * D ≤ K * (P * (K * (h + 1))) := Nat.mul_le_mul_left _ (by omega)
    have e5 : K * (P * (K * (h + 1))) = P * (K * (K * (h + 1))) := by rw [← Nat.mul_assoc, Nat.mul_comm K P, Nat.mul_assoc]
    have := a.hV1
    have := a.hVD
    omega
  exact Nat.lt_of_mul_lt_mul_left (Nat.lt_of_mul_lt_mul_left h1)
theorem At.start (a : At K P h s T p V D) : V / D ≤ T / h := by
  rw [Nat.le_div_iff_mul_le a.hh]
  have h1 : V / D * D ≤ V := Nat.div_mul_le_self V D
  have h2 : V / D * (P * (K * h)) ≤ V / D * D := Nat.mul_le_mul_left _ (Nat.le_trans (Nat.mul_le_mul_left _ (by omega)) a.hD1)
  have h3 : P * (p + K * T) + P ≤ P * (K * (T + 1)) := by
    have : p + K * T + 1 ≤ K * (T + 1) := by rw [Nat.mul_add, Nat.mul_one]; have := a.hp; omega
    have := Nat.mul_le_mul_left P this
    rwa [Nat.mul_add, Nat.mul_one] at this
  have h4 : V / D * (P * (K * h)) < P * (K * (T + 1)) := by have := a.hV2; omega
  have e : V / D * (P * (K * h)) = P * (K * (V / D * h)) := by
    rw [← Nat.mul_assoc, Nat.mul_comm (V / D) P, Nat.mul_assoc, ← Nat.mul_assoc (V / D), Nat.mul_comm (V / D) K, Nat.mul_assoc]
  rw [e] at h4
  have := Nat.lt_of_mul_lt_mul_left (Nat.lt_of_mul_lt_mul_left h4)
  omega
theorem At.big (a : At K P h s T p V D) {dg : Nat} (hd : K ≤ dg) : V / D ≤ dg - 1 := by have := a.q_lt; omega
theorem At.less (a : At K P h s T p V D) {dg r : Nat} (he : dg * h + r = T) (hl : r * K + p < dg * s) : V / D ≤ dg - 1 := by
  have h1 : V < dg * D := by
    have h2 : dg * (P * (s + K * h)) ≤ dg * D := Nat.mul_le_mul_left _ a.hD1
    have e1 : dg * (P * (s + K * h)) = P * (dg * s + K * (dg * h)) := by
      rw [← Nat.mul_assoc, Nat.mul_comm dg P, Nat.mul_assoc, Nat.mul_add, ← Nat.mul_assoc dg K h, Nat.mul_comm dg K, Nat.mul_assoc]
    have h3 : p + K * T + 1 ≤ dg * s + K * (dg * h) := by
      rw [← he, Nat.mul_add, Nat.mul_comm K r]
      omega
    have h4 := Nat.mul_le_mul_left P h3
    rw [Nat.mul_add, Nat.mul_one] at h4
    have := a.hV2
    omega
  have : V / D < dg := by rw [Nat.div_lt_iff_lt_mul a.dpos]; exact h1
  omega
theorem At.upper (a : At K P h s T p V D) {dg r : Nat} (he : dg * h + r = T) (hd : dg < K) (hl : dg * s ≤ r * K + p) : dg ≤ V / D + 1 := by
  have h1 : dg * D ≤ V + D := by
    obtain ⟨y, hy⟩ : ∃ y, D = P * (s + K * h) + y := ⟨D - P * (s + K * h), by have := a.hD1; omega⟩
    have hyP : y < P := by have := a.hD2; omega
    have e1 : dg * (P * (s + K * h)) = P * (dg * s + K * (dg * h)) := by
      rw [← Nat.mul_assoc, Nat.mul_comm dg P, Nat.mul_assoc, Nat.mul_add, ← Nat.mul_assoc dg K h, Nat.mul_comm dg K, Nat.mul_assoc]
    have h3 : dg * s + K * (dg * h) ≤ p + K * T := by
      rw [← he, Nat.mul_add, Nat.mul_comm K r]
      omega
    have h4 := Nat.mul_le_mul_left P h3
    have h5 : dg * y ≤ K * P := Nat.mul_le_mul (by omega) (by omega)
    have h6 : P * K ≤ P * (s + K * h) := Nat.mul_le_mul_left _ (by have := Nat.mul_le_mul_left K a.hh; omega)
    have := a.hV1
    rw [hy, Nat.mul_add, e1]
    rw [Nat.mul_comm K P] at h5
    omega
  have h2 : (dg - 1) * D ≤ V := by
    rw [Nat.sub_mul, Nat.one_mul]
    omega
  have := (Nat.le_div_iff_mul_le a.dpos).2 h2
  omega
theorem At.brk (a : At K P h s T p V D) {dg r : Nat} (he : dg * h + r = T) (hr : K ≤ r) : dg < K ∧ dg * s ≤ r * K + p := by
  have ht := a.top
  have h1 : dg * h < K * h := by
    rw [Nat.mul_add, Nat.mul_one] at ht
    omega
  have h2 : dg < K := Nat.lt_of_mul_lt_mul_right h1
  have h3 : dg * s ≤ K * K := Nat.mul_le_mul (by omega) (by have := a.hs; omega)
  have h4 : K * K ≤ r * K := Nat.mul_le_mul_right _ hr
  exact ⟨h2, by omega⟩

/-- The leading limbs of two numbers of n + 2 and n + 3 limbs. -/
theorem At.of (d p : List Nat) (n s h p2 p1 p0 : Nat) (hd : d.length = n + 2) (hp : p.length = n + 3) (hLd : Num.Lim d) (hLp : Num.Lim p)
    (e1 : d[n]? = some s) (e2 : d[n + 1]? = some h) (e3 : p[n]? = some p2) (e4 : p[n + 1]? = some p1) (e5 : p[n + 2]? = some p0) (hh : 0 < h) (hVD : Num.val p < Num.K * Num.val d) :
    At Num.K (Num.K ^ n) h s (p0 * Num.K + p1) p2 (Num.val p) (Num.val d) := by
  have cons : ∀ (l : List Nat) (k x : Nat), l[k]? = some x → l.drop k = x :: l.drop (k + 1) := fun l k x hx => by
    have hk := (List.getElem?_eq_some_iff.1 hx).1
    rw [List.drop_eq_getElem_cons hk, (List.getElem?_eq_some_iff.1 hx).2]
  have d1 := Num.val_split d n (by omega)
  have d2 := Num.val_lt (d.take n) (hLd.take n)
  rw [List.length_take, Nat.min_eq_left (by omega)] at d2
  rw [cons d n s e1, cons d (n + 1) h e2, List.drop_of_length_le (by omega)] at d1
  have p1' := Num.val_split p n (by omega)
  have p2' := Num.val_lt (p.take n) (hLp.take n)
  rw [List.length_take, Nat.min_eq_left (by omega)] at p2'
  rw [cons p n p2 e3, cons p (n + 1) p1 e4, cons p (n + 2) p0 e5, List.drop_of_length_le (by omega)] at p1'
  simp only [Num.val_cons, Num.val_nil, Nat.mul_zero, Nat.add_zero] at d1 p1'
  rw [show p1 + Num.K * p0 = p0 * Num.K + p1 from by rw [Nat.mul_comm]; omega] at p1'
  exact ⟨Num.K_pos, Num.pow_pos' n, hh, hLd.at e1, hLp.at e3, by omega, by omega, by omega, by omega, hVD⟩
end Guess
end Go.Proofs.YtohlilgnognmgaaGreatDoor
/-
  The walk of natural.guessDigit.
-/
namespace Go.Proofs.YtohlilgnognmgaaGreatDoor
open Go.RowKit

/-- guessDigit returns the quotient, or one more. -/
def GuessEnd (V D : Nat) (w : World) (e : Ending) (w' : World) : Prop := ∃ dg : Nat, e = .returned (.int .u32 (dg : Int)) ∧ dg < 4294967296 ∧ V / D ≤ dg ∧ dg ≤ V / D + 1 ∧ ∃ q, w' = w.drewN q
theorem ret_u32 {a b : Int} (h : a = b) : Ending.returned (.int .u32 a) = .returned (.int .u32 b) := by rw [h]
theorem div_word (T h : Nat) (hT : T < 18446744073709551616) : IntKind.u64.wrap ((T : Int) / (h : Int)) = ((T / h : Nat) : Int) := by
  have h1 : T / h ≤ T := Nat.div_le_self T h
  have e : (T : Int) / (h : Int) = ((T / h : Nat) : Int) := by simp
  rw [e, IntKind.wrap_u64]
  generalize T / h = q at h1 ⊢
  omega
theorem or_word2 (a x : Nat) (ha : a < 4294967296) (hx : x < 4294967296) : bits .or .u64 ((a : Int) * 4294967296) (x : Int) = ((a * 4294967296 + x : Nat) : Int) := by
  rw [or_word a x ha hx]; simp
theorem drew3 (w : World) (a b c : Nat) : ∃ q, ((w.drewN a).drewN b).drewN c = w.drewN q := ⟨a + b + c, by simp only [World.drewN_drewN]⟩

set_option maxHeartbeats 2000000 in
theorem guessDigit_walk (ga gb oa ob n c d : Nat) (l lb : List Nat) (w : World) (hl : l.length = n + 3) (hlb : lb.length = n + 2) (hA : CelAt w ga oa l) (hB : CelAt w gb ob lb) (hn : n ≤ 1000000000) (hL : Num.Lim l) (hLb : Num.Lim lb)
    (htop : ∃ h, lb[n + 1]? = some h ∧ 2147483648 ≤ h) (hVD : Num.val l < Num.K * Num.val lb) :
    Calls Tryz.prog 107 #[.slice (some ⟨ga, oa, none⟩) (n + 3) c, .slice (some ⟨gb, ob, none⟩) (n + 2) d] w (GuessEnd (Num.val l) (Num.val lb) w) := by
  obtain ⟨h, hh, hhb⟩ := htop
  obtain ⟨s, hs⟩ : ∃ x, lb[n]? = some x := ⟨_, List.getElem?_eq_getElem (by omega)⟩
  obtain ⟨p0, hp0⟩ : ∃ x, l[n + 2]? = some x := ⟨_, List.getElem?_eq_getElem (by omega)⟩
  obtain ⟨p1, hp1⟩ : ∃ x, l[n + 1]? = some x := ⟨_, List.getElem?_eq_getElem (by omega)⟩
  obtain ⟨p2, hp2⟩ : ∃ x, l[n]? = some x := ⟨_, List.getElem?_eq_getElem (by omega)⟩
  have AT := Lib.hid (Guess.At.of lb l n s h p2 p1 p0 hlb hl hLb hL hs hh hp2 hp1 hp0 (by omega) hVD)
  have bh : h < 4294967296 := hLb.at hh
  have bs : s < 4294967296 := hLb.at hs
  have b0 : p0 < 4294967296 := hL.at hp0
  have b1 : p1 < 4294967296 := hL.at hp1
  have b2 : p2 < 4294967296 := hL.at hp2
  have ch := hB _ _ hh
  have cs := hB _ _ hs
  have c0 := hA _ _ hp0
  have c1 := hA _ _ hp1
  have c2 := hA _ _ hp2
  obtain ⟨V, hV⟩ : ∃ V, V = Num.val l := ⟨_, rfl⟩
  obtain ⟨D, hD⟩ : ∃ D, D = Num.val lb := ⟨_, rfl⟩
  rw [← hV, ← hD] at AT
  rw [← hV, ← hD]
  obtain ⟨T, hT⟩ : ∃ T, T = p0 * Num.K + p1 := ⟨_, rfl⟩
  rw [← hT] at AT
  have hor1 : bits .or .u64 ((p0 : Int) * 4294967296) (p1 : Int) = (T : Int) := by rw [or_word p0 p1 b0 b1, hT, Num.K_eq]; simp
  have hTb : T < 18446744073709551616 := by rw [hT, Num.K_eq]; omega
  have hi1 : ((n + 2 : Nat) : Int) - 1 = ((n + 1 : Nat) : Int) := by omega
  have hi2 : ((n + 2 : Nat) : Int) - 2 = ((n : Nat) : Int) := by omega
  clear hl hlb hA hB hL hLb hVD hh hs hp0 hp1 hp2 hV hD hT
  have hi1' := Lib.hid hi1
  have hi2' := Lib.hid hi2
  clear hi1 hi2
  go_enter Tryz.func107, Tryz.ntmps107
  go_wp2
  go_quiet (fail)
  go_wp2
  go_quiet (fail)
  go_wp2
  go_quiet (fail)
  go_wp2
  go_loopw [9, 10] (fun x y wr => ∃ dg r : Nat, x = .int .u64 dg ∧ y = .int .u64 r ∧ r < 4294967296 ∧ dg < 18446744073709551616 ∧ Hid (dg * h + r = T) ∧ Hid (V / D ≤ dg) ∧ ∃ q, wr = w.drewN q) (fun x _ _ => (intOf x).toNat)
  case atStart => exact ⟨T / h, T % h, int_u64 (div_word T h hTb), int_u64 (by simp), Nat.lt_trans (Nat.mod_lt _ (by omega)) bh, Nat.lt_of_le_of_lt (Nat.div_le_self T h) hTb, Nat.div_add_mod' T h, AT.out.start, drew3 _ _ _ _⟩
  case round =>
    obtain ⟨dg, r, rfl, rfl, hr, hdb, He, Hq, q, rfl⟩ := hrel
    have hor2 := or_word2 r p2 hr b2
    obtain ⟨M, hM⟩ : ∃ M, M = r * 4294967296 + p2 := ⟨_, rfl⟩
    rw [← hM] at hor2
    have HM := Lib.hid hM
    have hMb : M < 18446744073709551616 := by omega
    clear hM
    by_cases hbig : 4294967296 ≤ dg
    · have t1 : ((dg : Int) / 4294967296 != 0) = true := by simp; omega
      have hd1 : 1 ≤ dg := by omega
      have Hlow : Hid (V / D ≤ dg - 1) := AT.out.big (by rw [Num.K_eq]; exact hbig)
      have He2 : Hid ((dg - 1) * h + (r + h) = T) := by
        show _ = _
        have := He.out
        rw [Nat.sub_mul, Nat.one_mul]
        have : h ≤ dg * h := Nat.le_mul_of_pos_left h (by omega)
        omega
      by_cases hbrk : 4294967296 ≤ r + h
      · have t3 : (((r : Int) + (h : Int)) / 4294967296 != 0) = true := by simp; omega
        go_wp2
        go_ret
        have hb := AT.out.brk He2.out (by rw [Num.K_eq]; exact hbrk)
        have hu := AT.out.upper He2.out hb.1 hb.2
        have hb1 := hb.1
        rw [Num.K_eq] at hb1
        exact ⟨dg - 1, ret_u32 (by omega), hb1, Hlow.out, hu, q, rfl⟩
      · have t3 : (((r : Int) + (h : Int)) / 4294967296 != 0) = false := by simp; omega
        go_wp2
        go_roundw
        case rel => exact ⟨dg - 1, r + h, int_u64 (by omega), int_u64 (by omega), by omega, by omega, He2, Hlow, q, rfl⟩
        case measure => simp [intOf] <;> omega
    · have t1 : ((dg : Int) / 4294967296 != 0) = false := by simp; omega
      have hdl : dg < 4294967296 := by omega
      have hp0 : (0 : Int) ≤ (dg : Int) * (s : Int) := Int.mul_nonneg (by omega) (by omega)
      have hp1 : (dg : Int) * (s : Int) ≤ 18446744065119617025 := by have := mul_bound dg s hdl bs; rw [← Int.natCast_mul]; omega
      have HP := Lib.hid (Int.natCast_mul dg s)
      clear hbig
      by_cases hless : (M : Int) < (dg : Int) * (s : Int)
      · have hlessN : M < dg * s := by have := HP.out; omega
        have hd1 : 1 ≤ dg := by
          rcases Nat.eq_zero_or_pos dg with h0 | h0
          · rw [h0] at hlessN; omega
          · exact h0
        have Hlow : Hid (V / D ≤ dg - 1) := AT.out.less He.out (by rw [Num.K_eq]; have := HM.out; omega)
        have He2 : Hid ((dg - 1) * h + (r + h) = T) := by
          show _ = _
          have := He.out
          rw [Nat.sub_mul, Nat.one_mul]
          have : h ≤ dg * h := Nat.le_mul_of_pos_left h (by omega)
          omega
        clear hlessN
        by_cases hbrk : 4294967296 ≤ r + h
        · have t3 : (((r : Int) + (h : Int)) / 4294967296 != 0) = true := by simp; omega
          go_wp2
          go_ret
          have hb := AT.out.brk He2.out (by rw [Num.K_eq]; exact hbrk)
          have hu := AT.out.upper He2.out hb.1 hb.2
          have hb1 := hb.1
          rw [Num.K_eq] at hb1
          exact ⟨dg - 1, ret_u32 (by omega), hb1, Hlow.out, hu, q, rfl⟩
        · have t3 : (((r : Int) + (h : Int)) / 4294967296 != 0) = false := by simp; omega
          go_wp2
          go_roundw
          case rel => exact ⟨dg - 1, r + h, int_u64 (by omega), int_u64 (by omega), by omega, by omega, He2, Hlow, q, rfl⟩
          case measure => simp [intOf] <;> omega
      · have hge : (dg : Int) * (s : Int) ≤ (M : Int) := by omega
        go_wp2
        go_ret
        have hu := AT.out.upper He.out (by rw [Num.K_eq]; exact hdl) (by rw [Num.K_eq]; have := HP.out; have := HM.out; omega)
        exact ⟨dg, ret_u32 (by omega), hdl, Hq.out, hu, q, rfl⟩
end Go.Proofs.YtohlilgnognmgaaGreatDoor
/-
  Plain arithmetic of the long division; no program is named here.
-/
namespace Go.Proofs.YtohlilgnognmgaaGreatDoor
namespace Long

theorem bit_lo (x : Nat) (h0 : 0 < x) (h : x < 18446744073709551616) : 2 ^ (Lib.bitLen x - 1) ≤ x ∧ 1 ≤ Lib.bitLen x := by
  have h1 : 1 ≤ Lib.bitLen x := by rw [Lib.bitLen_half x (by omega) h]; omega
  refine ⟨?_, h1⟩
  rcases Nat.lt_or_ge x (2 ^ (Lib.bitLen x - 1)) with hlt | hge
  · have h2 : Lib.bitLen x ≤ 64 := Lib.bitLen_le x 64 (Nat.le_refl _) h
    have := Lib.bitLen_le x (Lib.bitLen x - 1) (by omega) hlt
    omega
  · exact hge
theorem bit_hi (x : Nat) (h : x < 18446744073709551616) : x < 2 ^ Lib.bitLen x := by
  rcases Nat.lt_or_ge x (2 ^ Lib.bitLen x) with hlt | hge
  · exact hlt
  · have h1 := Lib.bitLen_shift (Lib.bitLen x) x hge h
    have h3 := (bit_lo (x / 2 ^ Lib.bitLen x) (Nat.div_pos hge (Nat.pow_pos (by omega))) (Nat.lt_of_le_of_lt (Nat.div_le_self _ _) h)).2
    omega
/-- The shift that sets the highest bit of a limb. -/
theorem lz (x : Nat) (h0 : 0 < x) (h : x < 4294967296) : ∃ s, s + Lib.bitLen x = 32 ∧ s ≤ 31 ∧ 2147483648 ≤ x * 2 ^ s ∧ x * 2 ^ s < 4294967296 := by
  have h1 := bit_lo x h0 (by omega)
  have h2 := bit_hi x (by omega)
  have h3 : Lib.bitLen x ≤ 32 := Lib.bitLen_le x 32 (by omega) (by omega)
  refine ⟨32 - Lib.bitLen x, by omega, by omega, ?_, ?_⟩
  · have := Nat.mul_le_mul_right (2 ^ (32 - Lib.bitLen x)) h1.1
    rw [← Nat.pow_add, show Lib.bitLen x - 1 + (32 - Lib.bitLen x) = 31 from by omega] at this
    omega
  · have := Nat.mul_lt_mul_of_pos_right h2 (Nat.pow_pos (n := 32 - Lib.bitLen x) (show 0 < 2 by omega))
    rw [← Nat.pow_add, show Lib.bitLen x + (32 - Lib.bitLen x) = 32 from by omega] at this
    omega

theorem mid_mid (l r r2 : List Nat) (i : Nat) (h : i + r.length ≤ l.length) (h2 : r2.length = r.length) : mid (mid l i r) i r2 = mid l i r2 := by
  have e1 : (l.take i).length = i := by simp; omega
  unfold mid
  congr 1
  · rw [List.take_append_of_le_length (by omega), List.take_of_length_le (by omega)]
  · congr 1
    rw [List.drop_append, e1, List.drop_of_length_le (by omega), List.nil_append, List.drop_append, List.drop_of_length_le (by omega), List.nil_append, List.drop_drop]
    congr 1
    omega
theorem mid_seg (l r : List Nat) (i : Nat) (h : i + r.length ≤ l.length) : ((mid l i r).drop i).take r.length = r := by
  have e1 : (l.take i).length = i := by simp; omega
  unfold mid
  rw [List.drop_append, e1, List.drop_of_length_le (by omega), List.nil_append, Nat.sub_self, List.drop_zero, List.take_append_of_le_length (Nat.le_refl _), List.take_of_length_le (Nat.le_refl _)]
theorem mid_drop (l r : List Nat) (i : Nat) (h : i + r.length ≤ l.length) : (mid l i r).drop i = r ++ l.drop (i + r.length) := by
  have e1 : (l.take i).length = i := by simp; omega
  unfold mid
  rw [List.drop_append, e1, List.drop_of_length_le (by omega), List.nil_append, Nat.sub_self, List.drop_zero]
theorem mid_take (l r : List Nat) (i : Nat) (h : i ≤ l.length) : (mid l i r).take i = l.take i := by
  have e1 : (l.take i).length = i := by simp; omega
  unfold mid
  rw [List.take_append_of_le_length (by omega), List.take_of_length_le (by omega)]

/-- What the loop of divideLong keeps: A0 the dividend, R what is left of it, qs the digits of the quotient from place k on. -/
structure At (N D : Nat) (A0 R qs : List Nat) (k : Nat) : Prop where
  lenR : R.length = A0.length
  limR : Num.Lim R
  lenQ : k + qs.length = N
  limQ : Num.Lim qs
  eq : Num.val (A0.drop k) = Num.val qs * D + Num.val (R.drop k)
  lt : Num.val (R.drop k) < D
  pre : R.take k = A0.take k

variable {N D n k : Nat} {A0 R qs : List Nat}
theorem At.seg (a : At N D A0 R qs (k + 1)) (hD : D < Num.K ^ n) {x : Nat} (hx : R[k]? = some x) :
    Num.val ((R.drop k).take (n + 1)) = x + Num.K * Num.val (R.drop (k + 1)) := by
  rw [drop_cons hx, List.take_succ_cons, Num.val_cons, val_take_small _ _ (Nat.lt_trans a.lt hD)]
theorem At.seg_lt (a : At N D A0 R qs (k + 1)) (hD : D < Num.K ^ n) (hk : k < A0.length) : Num.val ((R.drop k).take (n + 1)) < Num.K * D := by
  obtain ⟨x, hx⟩ : ∃ x, R[k]? = some x := ⟨_, List.getElem?_eq_getElem (by rw [a.lenR]; exact hk)⟩
  rw [a.seg hD hx]
  have h1 := a.limR.at hx
  have h2 := Nat.mul_le_mul_left Num.K (show Num.val (R.drop (k + 1)) + 1 ≤ D from a.lt)
  rw [Nat.mul_add, Nat.mul_one] at h2
  omega
theorem tail_zero (T P X Y : Nat) (h : Y = T + P * X) (hT : T = Y) (hP : 0 < P) : X = 0 := by
  rcases Nat.eq_zero_or_pos X with h0 | h0
  · exact h0
  · have := Nat.mul_pos hP h0
    omega
theorem step_num (x K Q D Y V : Nat) (hV : V = x + K * Y) : x + K * (Q * D + Y) = (V / D + K * Q) * D + V % D := by
  have h := Nat.div_add_mod V D
  rw [Nat.add_mul, Nat.mul_add, Nat.mul_comm (V / D) D, Nat.mul_assoc]
  omega
theorem At.step (a : At N D A0 R qs (k + 1)) (hD : D < Num.K ^ n) (hD0 : 0 < D) (hk : k + n + 1 ≤ A0.length) {r : List Nat} (hr : r.length = n + 1) (hL : Num.Lim r) (hv : Num.val r = Num.val ((R.drop k).take (n + 1)) % D) :
    At N D A0 (mid R k r) ((Num.val ((R.drop k).take (n + 1)) / D) :: qs) k := by
  have hlen := a.lenR
  obtain ⟨x, hx⟩ : ∃ x, R[k]? = some x := ⟨_, List.getElem?_eq_getElem (by omega)⟩
  have hx0 : A0[k]? = some x := by
    have h1 := congrArg (fun l => l[k]?) a.pre
    simp only [List.getElem?_take_of_lt (show k < k + 1 by omega)] at h1
    rw [← h1]; exact hx
  have hseg := a.seg hD hx
  have htail : Num.val ((R.drop (k + 1)).drop n) = 0 := by
    have e := Num.val_split (R.drop (k + 1)) n (by simp; omega)
    exact tail_zero _ _ _ _ e (val_take_small _ _ (Nat.lt_trans a.lt hD)) (Num.pow_pos' n)
  rw [List.drop_drop] at htail
  have hdrop : Num.val ((mid R k r).drop k) = Num.val r := by
    rw [mid_drop R r k (by omega), Num.val_append, hr, show k + (n + 1) = k + 1 + n from by omega, htail, Nat.mul_zero, Nat.add_zero]
  refine ⟨by rw [mid_length R k r (by omega)]; exact hlen, mid_lim a.limR hL, by have := a.lenQ; simp; omega, Num.Lim.cons ?_ a.limQ, ?_, ?_, ?_⟩
  · rw [Nat.div_lt_iff_lt_mul hD0]
    exact a.seg_lt hD (by omega)
  · rw [drop_cons hx0, Num.val_cons, Num.val_cons, a.eq, hdrop, hv]
    exact step_num _ _ _ _ _ _ hseg
  · rw [hdrop, hv]
    exact Nat.mod_lt _ hD0
  · rw [mid_take R r k (by omega)]
    have h1 := congrArg (fun l => l.take k) a.pre
    simp only [List.take_take, Nat.min_eq_left (show k ≤ k + 1 by omega)] at h1
    exact h1
/-- The digit was right. -/
theorem digit_ok (r dg D V B : Nat) (hD : 0 < D) (h : r + dg * D = V + B * 0) (h1 : V / D ≤ dg) (h2 : dg ≤ V / D + 1) : dg = V / D ∧ r = V % D := by
  have h3 : dg * D ≤ V := by omega
  have h4 := (Nat.le_div_iff_mul_le hD).2 h3
  obtain rfl : dg = V / D := by omega
  have := Nat.div_add_mod V D
  rw [Nat.mul_comm] at this
  exact ⟨rfl, by omega⟩
/-- The digit was one too great, and the divisor is added back. -/
theorem digit_back (r r2 dg D V B cr : Nat) (hD : 0 < D) (hr : r < B) (hr2 : r2 < B) (h : r + dg * D = V + B * 1) (h1 : V / D ≤ dg) (h2 : dg ≤ V / D + 1) (hcr : cr ≤ 1) (h3 : r2 + B * cr = r + D) : 1 ≤ dg ∧ dg - 1 = V / D ∧ r2 = V % D := by
  have h4 : V < dg * D := by omega
  have h5 := (Nat.div_lt_iff_lt_mul hD).2 h4
  have h6 := Nat.div_add_mod V D
  rw [Nat.mul_comm] at h6
  generalize V / D = q at h1 h2 h5 h6 ⊢
  generalize V % D = m at h6 ⊢
  obtain rfl : dg = q + 1 := by omega
  rw [Nat.add_mul, Nat.one_mul] at h
  rcases Nat.lt_or_ge cr 1 with hc | hc
  · obtain rfl : cr = 0 := by omega
    omega
  · obtain rfl : cr = 1 := by omega
    exact ⟨by omega, by omega, by omega⟩
/-- The end: quotient and remainder of the shifted numbers. -/
theorem fin (a b s q r : Nat) (hb : 0 < b) (h : a * 2 ^ s = q * (b * 2 ^ s) + r) (hr : r < b * 2 ^ s) : q = a / b ∧ r / 2 ^ s = a % b := by
  have hp : 0 < 2 ^ s := Nat.pow_pos (by omega)
  have e1 : a * 2 ^ s / (b * 2 ^ s) = a / b := Nat.mul_div_mul_right a b hp
  have e2 : a * 2 ^ s % (b * 2 ^ s) = a % b * 2 ^ s := Nat.mul_mod_mul_right _ a b
  have hbp : 0 < b * 2 ^ s := Nat.mul_pos hb hp
  have e3 : (q * (b * 2 ^ s) + r) / (b * 2 ^ s) = q := by
    rw [Nat.add_comm, Nat.add_mul_div_right _ _ hbp, Nat.div_eq_of_lt hr, Nat.zero_add]
  have e4 : (q * (b * 2 ^ s) + r) % (b * 2 ^ s) = r := by
    rw [Nat.add_comm, Nat.add_mul_mod_self_right, Nat.mod_eq_of_lt hr]
  rw [← h] at e3 e4
  exact ⟨by omega, by rw [← e4, e2, Nat.mul_div_cancel _ hp]⟩
end Long
end Go.Proofs.YtohlilgnognmgaaGreatDoor
/-
  The walk of natural.divideLong.
-/
namespace Go.Proofs.YtohlilgnognmgaaGreatDoor
open Go.RowKit

theorem lz_walk (x s : Nat) (w : World) (hx : x < 4294967296) (hs : s + Lib.bitLen x = 32) :
    Calls Tryz.prog 105 #[.int .u32 (x : Int)] w fun e w' => e = .returned (.int .i64 (s : Int)) ∧ w = w' := by
  refine (Tryz.bits_LeadingZeros32 (x : Int) w (by omega) (by omega)).mono ?_
  rintro e w' ⟨rfl, rfl⟩
  refine ⟨?_, rfl⟩
  have : (32 : Int) - (Lib.bitLen (x : Int).toNat : Int) = (s : Int) := by rw [Int.toNat_natCast]; omega
  rw [this]

theorem shift_room (x s : Nat) (hs : s ≤ 31) (h : x * 2 ^ s < 4294967296) : (x + 1) * 2 ^ s ≤ 4294967296 := by
  have h1 : x < 2 ^ (32 - s) := by
    have e : 4294967296 = 2 ^ (32 - s) * 2 ^ s := by rw [← Nat.pow_add, show 32 - s + s = 32 from by omega]
    rw [e] at h
    exact Nat.lt_of_mul_lt_mul_right h
  have := Nat.mul_le_mul_right (2 ^ s) (show x + 1 ≤ 2 ^ (32 - s) from h1)
  rwa [← Nat.pow_add, show 32 - s + s = 32 from by omega] at this
/-- The divisor with its highest bit set. -/
theorem div_bounds (lb : List Nat) (m x s : Nat) (hlen : lb.length = m + 1) (hL : Num.Lim lb) (hx : lb[m]? = some x) (hs : s ≤ 31) (h1 : 2147483648 ≤ x * 2 ^ s) (h2 : x * 2 ^ s < 4294967296) :
    Num.K ^ m * 2147483648 ≤ Num.val lb * 2 ^ s ∧ Num.val lb * 2 ^ s < Num.K ^ (m + 1) := by
  have e := val_take_succ lb m x hx
  rw [List.take_of_length_le (by omega)] at e
  have hl := Num.val_lt (lb.take m) (hL.take m)
  rw [List.length_take, Nat.min_eq_left (by omega)] at hl
  have h3 := shift_room x s hs h2
  rw [e]
  constructor
  · rw [Nat.add_mul, Nat.mul_assoc]
    have := Nat.mul_le_mul_left (Num.K ^ m) h1
    omega
  · have h4 : (Num.val (lb.take m) + Num.K ^ m * x + 1) * 2 ^ s ≤ Num.K ^ m * ((x + 1) * 2 ^ s) := by
      rw [← Nat.mul_assoc]
      refine Nat.mul_le_mul_right _ ?_
      rw [Nat.mul_add, Nat.mul_one]
      omega
    have h5 : Num.K ^ m * ((x + 1) * 2 ^ s) ≤ Num.K ^ m * Num.K := Nat.mul_le_mul_left _ (by rw [Num.K_eq]; exact h3)
    rw [Nat.pow_succ]
    have h6 : 0 < 2 ^ s := Nat.pow_pos (by omega)
    rw [Nat.add_mul, Nat.one_mul] at h4
    omega
theorem trim_len (r : List Nat) (k m : Nat) (hk : k ≤ r.length) (hL : Num.Lim r) (hn : Num.Nrm (r.take k)) (hv : Num.val (r.take k) = Num.val r) (h1 : Num.K ^ m ≤ Num.val r) (h2 : Num.val r < Num.K ^ (m + 1)) : k = m + 1 := by
  have e : (r.take k).length = k := by rw [List.length_take]; omega
  have h3 := hn.len_le (k := m + 1) (by omega)
  rw [e] at h3
  rcases Nat.lt_or_ge m k with h | h
  · omega
  · have h4 := Num.val_lt (r.take k) (hL.take k)
    rw [e] at h4
    have := Nat.pow_le_pow_right Num.K_pos h
    omega
theorem top_limb (dl : List Nat) (m : Nat) (hlen : dl.length = m + 1) (hL : Num.Lim dl) (h1 : Num.K ^ m * 2147483648 ≤ Num.val dl) : ∃ h, dl[m]? = some h ∧ 2147483648 ≤ h := by
  obtain ⟨x, hx⟩ : ∃ x, dl[m]? = some x := ⟨_, List.getElem?_eq_getElem (by omega)⟩
  refine ⟨x, hx, ?_⟩
  have e := val_take_succ dl m x hx
  rw [List.take_of_length_le (by omega)] at e
  have hl := Num.val_lt (dl.take m) (hL.take m)
  rw [List.length_take, Nat.min_eq_left (by omega)] at hl
  have h2 : Num.K ^ m * 2147483648 < Num.K ^ m * (x + 1) := by rw [Nat.mul_add, Nat.mul_one]; omega
  have := Nat.lt_of_mul_lt_mul_left h2
  omega
theorem start_lt (r : List Nat) (N m h s : Nat) (hlen : r.length = N + m + 1) (hL : Num.Lim r) (hh : r[N + m]? = some h) (hhs : h < 2 ^ s) (hs : s ≤ 31) (D : Nat) (hD : Num.K ^ m * 2147483648 ≤ D) : Num.val (r.drop N) < D := by
  have hx : (r.drop N)[m]? = some h := by rw [List.getElem?_drop]; exact hh
  have e := val_take_succ (r.drop N) m h hx
  rw [List.take_of_length_le (by simp; omega)] at e
  have hl := Num.val_lt ((r.drop N).take m) ((hL.drop N).take m)
  rw [List.length_take, Nat.min_eq_left (by simp; omega)] at hl
  have h2 : h + 1 ≤ 2147483648 := Nat.le_trans hhs (Nat.le_trans (Nat.pow_le_pow_right (by omega) hs) (by decide))
  have h3 := Nat.mul_le_mul_left (Num.K ^ m) h2
  rw [Nat.mul_add, Nat.mul_one] at h3
  omega

/-- divideLong returns quotient and remainder. -/
def LongEnd (q r : Nat) (w : World) (e : Ending) (w' : World) : Prop := ∃ v1 v2, e = .returned (.tuple #[v1, v2]) ∧ Res w w' v1 q ∧ Res w w' v2 r

/-- The loop of divideLong in memory: R lies in block g2, the digits in block g3. -/
def LongInv (t : TypeId) (g1 g2 g3 N D k : Nat) (A0 dl : List Nat) (w wr : World) : Prop :=
  ∃ R qs, Long.At N D A0 R qs k ∧ Own t wr g2 R ∧ Own t wr g3 (mid (List.replicate N 0) k qs) ∧ CelAt wr g1 0 dl ∧ Below w.heap.size w wr
theorem below_only {w wr w' : World} {g : Nat} (h : Below w.heap.size w wr) (hg : w.heap.size ≤ g) (ho : wr.grownBy w' (some g)) : Below w.heap.size w w' :=
  h.trans ⟨ho.os, ho.tape, ho.output, ho.size, fun i hi => ho.block i (Nat.lt_of_lt_of_le hi h.size) (by intro e; injection e with e; omega)⟩
theorem CelAt.only {w w' : World} {g g' o : Nat} {l : List Nat} (h : CelAt w g' o l) (hne : g' ≠ g) (ho : w.grownBy w' (some g)) : CelAt w' g' o l := fun j x hx => only_cell ho hne (h j x hx)
theorem CelAt.old_ {w w' : World} {g o : Nat} {l : List Nat} (h : CelAt w g o l) (hb : Below w.heap.size w w') : CelAt w' g o l := fun j x hx => by
  have := h j x hx
  rw [hb.cell (World.block_lt_of_cell? w _ this)]
  exact this

set_option maxRecDepth 4000 in
set_option maxHeartbeats 4000000 in
theorem divideLong_walk (A B : Option Addr) (ka m c d : Nat) (la lb : List Nat) (w : World) (hka : la.length = ka) (hkb : lb.length = m + 2) (hle : m + 2 ≤ ka) (hkc : ka ≤ c) (hcm : c ≤ 9223372036854775807) (hkd : m + 2 ≤ d) (hdm : d ≤ 9223372036854775807) (hn : ka ≤ 10000000) (hA : Cel w (fun _ => True) A la) (hB : Cel w (fun _ => True) B lb) (hLa : Num.Lim la) (hLb : Num.Lim lb) (hNb : Num.Nrm lb) :
    Calls Tryz.prog 88 #[.slice A ka c, .slice B (m + 2) d] w (LongEnd (Num.val la / Num.val lb) (Num.val la % Num.val lb) w) := by
  obtain ⟨i0, hi, hz0, hz1, hz2⟩ := info_parts info_u32
  obtain ⟨N, rfl⟩ : ∃ N, ka = N + m + 1 := ⟨ka - m - 1, by omega⟩
  have hN : 1 ≤ N := by omega
  clear hle
  obtain ⟨gb, ob, rfl, _, hcb⟩ := hB (by omega)
  obtain ⟨x, hx⟩ : ∃ x, lb[m + 1]? = some x := ⟨_, List.getElem?_eq_getElem (by omega)⟩
  have hcx := hcb _ _ hx
  have hxb : x < 4294967296 := hLb.at hx
  have hx0 : 0 < x := by
    rcases Nat.eq_zero_or_pos x with h0 | h0
    · exfalso
      apply hNb
      rw [List.getLast?_eq_getElem?, hkb]
      rw [h0] at hx
      exact hx
    · exact h0
  obtain ⟨s, hs32, hs, hs1, hs2⟩ := Long.lz x hx0 hxb
  have hDb := div_bounds lb (m + 1) x s hkb hLb hx hs hs1 hs2
  have HDb := Lib.hid hDb
  have HS := Lib.hid hs32
  have Hka := Lib.hid hka
  have Hkb := Lib.hid hkb
  have HLa := Lib.hid hLa
  have HLb := Lib.hid hLb
  have HNb := Lib.hid hNb
  clear hDb hs32 hs1 hs2 hka hkb hLa hLb hNb hx
  go_enter Tryz.func88, Tryz.ntmps88
  go_wp2_with fail
  refine (lz_walk x s _ hxb HS.out).mono ?_
  rintro e w' ⟨rfl, rfl⟩
  go_wp2_with fail
  refine (shiftLeft_walk _ (m + 2) d s lb _ Hkb.out hkd hdm (by omega) hB HLb.out hs).mono ?_
  rintro e w1 ⟨_, r1, rfl, ⟨g1, rfl, hg1, ho1, hb1⟩, hl1, hL1, hv1, _⟩
  rw [hl1]
  have Hl1 := Lib.hid hl1
  have Hv1 := Lib.hid hv1
  clear hl1 hv1
  go_wp2_with fail
  refine (trim_walk (fun _ => True) (some ⟨g1, 0, none⟩) (m + 2 + 1) (m + 2 + 1) r1 _ Hl1.out.symm (Nat.le_refl _) (by omega) ho1.celTop).mono ?_
  rintro e w' ⟨⟨k, hk, rfl, hz, hnr⟩, rfl⟩
  have hzv := hz.val (by have := Hl1.out; omega)
  obtain rfl : k = m + 2 := trim_len r1 k (m + 1) (by have := Hl1.out; omega) hL1 hnr hzv (by rw [Hv1.out]; have := HDb.out.1; have h1 : Num.K ^ (m + 1) * 1 ≤ Num.K ^ (m + 1) * 2147483648 := Nat.mul_le_mul_left _ (by omega); omega) (by rw [Hv1.out]; exact HDb.out.2)
  rw [Hv1.out] at hzv
  have HD := Lib.hid hzv
  have hL2 := hL1.take (m + 2)
  have hcd := ho1.cel.take (m + 2)
  have Hdl : Hid ((r1.take (m + 2)).length = m + 2) := by show _ = _; have := Hl1.out; rw [List.length_take]; omega
  obtain ⟨dl, hdl⟩ : ∃ l, l = r1.take (m + 2) := ⟨_, rfl⟩
  rw [← hdl] at HD hL2 hcd Hdl
  have HLd := Lib.hid hL2
  clear hdl hzv hL2 hnr hz hL1 hk Hl1 Hv1
  go_wp2_with fail
  refine (shiftLeft_walk A (N + m + 1) c s la _ Hka.out hkc hcm (by omega) (hA.below' hb1) HLa.out hs).mono ?_
  rintro e w2 ⟨_, r2, rfl, ⟨g2, rfl, hg2, ho2, hb2⟩, hl2, hL2, hv2, h, hh, hhs⟩
  rw [hl2]
  have Hl2 := Lib.hid hl2
  have Hv2 := Lib.hid hv2
  have HL2 := Lib.hid hL2
  have Hh := Lib.hid hh
  clear hl2 hv2 hL2 hh
  go_wp2_with (at_make; refine wpList_make_u32 _ rfl (.tmp 32) (.tmp 32) 23 rfl 45 i0 Tryz.underlying23 hi hz0 hz1 hz2 .i64 .i64 _ _ N rfl rfl (by omega) (by omega) (by omega) ?_; intro g3 w3 hg3 ho3 hb3 hs3; have Hg3 := Lib.hid hg3; clear hg3)
  have g12 : g1 < g2 := Nat.lt_of_lt_of_le ho1.lt hg2
  have g23 : g2 < g3 := by have := ho2.lt; have := Hg3.out; omega
  have hb123 : Below w.heap.size w w3 := (hb1.trans (hb2.mono hb1.size)).trans (hb3.mono (Nat.le_trans hb1.size hb2.size))
  have ho23 := ho2.below hb3 ho2.lt
  have hcd3 := (hcd.old_ hb2).old_ hb3
  have Hst : Hid (Num.val (r2.drop N) < Num.val lb * 2 ^ s) := start_lt r2 N (m + 1) h s (by have := Hl2.out; omega) HL2.out Hh.out hhs hs _ HDb.out.1
  clear hcd ho1 ho2 hb1 hb2 hb3 hs3 hcb hcx hhs hB hA Hh
  go_loopw [10] (fun i wr => ∃ k : Nat, k ≤ N ∧ i = .int .i64 ((k : Int) - 1) ∧ LongInv 45 g1 g2 g3 N (Num.val dl) k r2 dl w wr) (fun i _ => (intOf i + 1).toNat)
  case atStart => exact ⟨N, Nat.le_refl _, by go_num, r2, [], ⟨rfl, HL2.out, rfl, Num.Lim.nil, by simp [Num.val], by rw [HD.out]; exact Hst.out, rfl⟩, ho23, by rw [mid_nil]; exact ho3, hcd3, hb123⟩
  case round =>
    obtain ⟨k, hk, rfl, R, qs, hat, hoR, hoQ, hcd, hbl⟩ := hrel
    have Hat := Lib.hid hat
    clear hat
    clear hcd3 ho23 ho3 hb123
    by_cases h0 : k = 0
    · have hk0 : ¬ 0 ≤ (k : Int) - 1 := by omega
      have Hk := Lib.hid h0
      clear h0
      have hlenQ : qs.length = N := by have := Hat.out.lenQ; have := Hk.out; omega
      have HlenQ := Lib.hid hlenQ
      clear hlenQ
      have hoQ' : Own 45 wr g3 qs := by
        rw [Hk.out, mid_whole _ _ (by have := HlenQ.out; simp; omega)] at hoQ
        exact hoQ
      have hRl : Hid (R.length = N + m + 2) := by show _ = _; have := Hat.out.lenR; have := Hl2.out; omega
      go_wp2_with fail
      refine (trim_walk (fun _ => True) _ N N qs wr (by have := HlenQ.out; omega) (Nat.le_refl _) (by omega) hoQ'.celTop).mono ?_
      rintro e w' ⟨⟨j1, hj1, rfl, hz1', hn1⟩, rfl⟩
      have Hz1 := Lib.hid hz1'
      have Hn1 := Lib.hid hn1
      clear hz1' hn1
      go_wp2_with fail
      refine (trim_walk (fun _ => True) _ (N + m + 2) _ R wr (by have := hRl.out; omega) (by omega) (by omega) hoR.celTop).mono ?_
      rintro e w' ⟨⟨j2, hj2, rfl, hz2', hn2⟩, rfl⟩
      have Hz2 := Lib.hid hz2'
      have Hn2 := Lib.hid hn2
      clear hz2' hn2
      go_wp2_with fail
      refine (shiftRight_walk _ j2 _ s (R.take j2) wr (by have := hRl.out; rw [List.length_take]; omega) (by omega) (by omega) (by omega) (hoR.celTop.take j2) (Hat.out.limR.take _) hs).mono ?_
      rintro e w6 ⟨_, r6, rfl, ⟨g6, rfl, hg6, ho6, hb6⟩, hl6, hL6, hv6⟩
      rw [hl6]
      have Hl6 := Lib.hid hl6
      have HL6 := Lib.hid hL6
      have Hv6 := Lib.hid hv6
      clear hl6 hL6 hv6
      go_wp2_with fail
      refine (trim_walk (fun _ => True) _ j2 _ r6 w6 (by have := Hl6.out; omega) (by omega) (by omega) ho6.celTop).mono ?_
      rintro e w' ⟨⟨j3, hj3, rfl, hz3', hn3⟩, rfl⟩
      go_wp2
      go_ret2
      have heq := Hat.out.eq
      have hlt := Hat.out.lt
      rw [Hk.out, List.drop_zero, List.drop_zero, HD.out, Hv2.out] at heq
      rw [Hk.out, List.drop_zero, HD.out] at hlt
      have hpos : 0 < Num.val lb := by
        have h1 := HDb.out.1
        have h2 := Nat.mul_le_mul_left (Num.K ^ (m + 1)) (show 1 ≤ 2147483648 by omega)
        have h3 := Num.pow_pos' (m + 1)
        rcases Nat.eq_zero_or_pos (Num.val lb) with h0 | h0
        · rw [h0] at h1; omega
        · exact h0
      have hfin := Long.fin (Num.val la) (Num.val lb) s _ _ hpos heq hlt
      have hbl6 : Below w.heap.size w w6 := hbl.trans (hb6.mono hbl.size)
      have hoQ6 := hoQ'.below hb6 hoQ'.lt
      refine ⟨_, _, rfl, ⟨qs.take j1, hoQ6.rdTake _ trivial Hat.out.limQ j1 N (by have := HlenQ.out; omega) hj1 (by omega), Hn1.out, ?_, hbl6⟩, ⟨r6.take j3, ho6.rdTake _ trivial HL6.out j3 j2 (by have := Hl6.out; omega) hj3 (by omega), hn3, ?_, hbl6⟩⟩
      · rw [Hz1.out.val (by have := HlenQ.out; omega)]
        exact hfin.1
      · rw [hz3'.val (by have := Hl6.out; omega), Hv6.out, Hz2.out.val (by have := hRl.out; omega)]
        exact hfin.2
    · obtain ⟨k, rfl⟩ : ∃ j, k = j + 1 := ⟨k - 1, by omega⟩
      have hk0 : 0 ≤ ((k + 1 : Nat) : Int) - 1 := by omega
      have hkt : (((k + 1 : Nat) : Int) - 1).toNat = k := by omega
      clear h0
      have hRl : R.length = N + m + 2 := by have := Hat.out.lenR; have := Hl2.out; omega
      have HRl := Lib.hid hRl
      have HDK : Hid (Num.val dl < Num.K ^ (m + 2)) := by show _ < _; rw [HD.out]; exact HDb.out.2
      have HD0 : Hid (0 < Num.val dl) := by
        show 0 < _
        rw [HD.out]
        have h1 := HDb.out.1
        have h2 := Nat.mul_le_mul_left (Num.K ^ (m + 1)) (show 1 ≤ 2147483648 by omega)
        have h3 := Num.pow_pos' (m + 1)
        omega
      have Hsl : Hid (((R.drop k).take (m + 3)).length = m + 3) := by show _ = _; simp; omega
      have Hlt : Hid (Num.val ((R.drop k).take (m + 2 + 1)) < Num.K * Num.val dl) := Hat.out.seg_lt HDK.out (by have := Hl2.out; omega)
      have hcseg : CelAt wr g2 k ((R.drop k).take (m + 3)) := (hoR.celAt k).take (m + 3)
      clear hRl
      go_wp2_with fail
      rw [show k + (m + 2) + 1 - k = m + 3 from by omega]
      refine (guessDigit_walk g2 g1 k 0 m _ _ _ dl wr Hsl.out Hdl.out hcseg hcd (by omega) ((Hat.out.limR.drop k).take _) HLd.out (top_limb dl (m + 1) Hdl.out HLd.out (by rw [HD.out]; exact HDb.out.1)) Hlt.out).mono ?_
      rintro e w' ⟨dg, rfl, hdg, hdlo, hdhi, q, rfl⟩
      have Hdlo := Lib.hid hdlo
      have Hdhi := Lib.hid hdhi
      clear hdlo hdhi hcseg
      go_wp2_with fail
      refine (subtractProduct_walk _ g2 k (m + 2) _ _ dg R dl _ (hoR.drewN q) (by have := HRl.out; omega) (by omega) (fun _ => ⟨g1, 0, rfl, by omega, hcd⟩) Hdl.out Hat.out.limR HLd.out hdg).mono ?_
      rintro e w4 ⟨r, bw, hbw, rfl, hr, hLr, hvr, hoW, hgW⟩
      have Hr := Lib.hid hr
      have HLr := Lib.hid hLr
      have Hvr := Lib.hid hvr
      have hbl4 : Below w.heap.size w w4 := below_only (below_drewN hbl q) (by omega) hgW
      have hoQ4 : Own 45 w4 g3 _ := (hoQ.drewN q).grown hgW (by intro e; injection e with e; omega)
      have hcd4 : CelAt w4 g1 0 dl := CelAt.only (w := wr.drewN q) hcd (by omega) hgW
      clear hr hLr hvr hgW hoR hoQ hcd hbl
      have hcell3 : ∃ u, (mid (List.replicate N 0) (k + 1) qs)[k]? = some u := ⟨_, List.getElem?_eq_getElem (by rw [mid_length _ _ _ (by have := Hat.out.lenQ; simp; omega)]; simp; omega)⟩
      obtain ⟨u3, hu3⟩ := hcell3
      have Hu3 := Lib.hid hu3
      clear hu3
      have hkN : k < N := by omega
      by_cases hb0 : bw = 0
      · subst hb0
        have hdec : decide ((0 : Nat) = 1) = false := rfl
        have hc3 := hoQ4.cel k u3 Hu3.out
        rw [Nat.zero_add] at hc3
        have hf3 := hoQ4.frozen k
        go_wp2
        go_roundw
        case rel =>
          have hok := Long.digit_ok _ _ _ _ _ HD0.out Hvr.out Hdlo.out Hdhi.out
          refine ⟨k, by omega, by go_num, mid R k r, dg :: qs, ?_, ?_, ?_, ?_, ?_⟩
          · rw [hok.1]
            exact Hat.out.step HDK.out HD0.out (by have := Hl2.out; omega) Hr.out HLr.out hok.2
          · exact Own.grown hoW (only_setCell (only_refl _ _) _ _) (by intro e; injection e with e; omega)
          · rw [← mid_front _ qs k dg (by simp; omega)]
            exact hoQ4.set_ _ _
          · exact CelAt.only hcd4 (by omega) (only_setCell (only_refl _ _) _ _)
          · exact below_only hbl4 (by omega) (only_setCell (only_refl _ _) _ _)
        case measure => simp [intOf] <;> omega
      · obtain rfl : bw = 1 := by omega
        have hdec : decide ((1 : Nat) = 1) = true := rfl
        have hdg1 : 1 ≤ dg := by
          have h1 := Hvr.out
          have h2 := Num.val_lt r HLr.out
          rw [Hr.out] at h2
          rcases Nat.eq_zero_or_pos dg with h0 | h0
          · rw [h0] at h1; omega
          · exact h0
        go_wp2_with fail
        refine (addInto_walk _ g2 k (m + 3) (m + 2) _ _ (mid R k r) dl w4 hoW (by rw [mid_length R k r (by have := Hr.out; have := HRl.out; omega)]; have := HRl.out; omega) (by omega) (fun _ => ⟨g1, 0, rfl, by omega, hcd4⟩) Hdl.out (by omega) (by omega) (mid_lim Hat.out.limR HLr.out) HLd.out).mono ?_
        rintro e w5 ⟨rfl, r5, hr5, hL5, ⟨cr, hcr, hv5⟩, hoW5, hgW5⟩
        have Hr5 := Lib.hid hr5
        have HL5 := Lib.hid hL5
        have Hv5 := Lib.hid hv5
        have hbl5 : Below w.heap.size w w5 := below_only hbl4 (by omega) hgW5
        have hoQ5 : Own 45 w5 g3 _ := hoQ4.grown hgW5 (by intro e; injection e with e; omega)
        have hcd5 : CelAt w5 g1 0 dl := hcd4.only (by omega) hgW5
        clear hr5 hL5 hv5 hgW5 hoW hoQ4 hcd4 hbl4
        have hc3 := hoQ5.cel k u3 Hu3.out
        rw [Nat.zero_add] at hc3
        have hf3 := hoQ5.frozen k
        go_wp2
        go_roundw
        case rel =>
          have hseg := Long.mid_seg R r k (by have := Hr.out; have := HRl.out; omega)
          have h5 := Hv5.out
          rw [Hr.out] at hseg
          rw [hseg] at h5
          have b1 := Num.val_lt r HLr.out
          have b2 := Num.val_lt r5 HL5.out
          rw [Hr.out] at b1
          rw [Hr5.out] at b2
          have hok := Long.digit_back _ _ _ _ _ _ _ HD0.out b1 b2 Hvr.out Hdlo.out Hdhi.out hcr h5
          refine ⟨k, by omega, by go_num, mid R k r5, (dg - 1) :: qs, ?_, ?_, ?_, ?_, ?_⟩
          · rw [hok.2.1]
            exact Hat.out.step HDK.out HD0.out (by have := Hl2.out; omega) Hr5.out HL5.out hok.2.2
          · rw [Long.mid_mid R r r5 k (by have := Hr.out; have := HRl.out; omega) (by have := Hr.out; have := Hr5.out; omega)] at hoW5
            exact Own.grown hoW5 (only_setCell (only_refl _ _) _ _) (by intro e; injection e with e; omega)
          · rw [← mid_front _ qs k (dg - 1) (by simp; omega), show ((dg : Int) - 1) = ((dg - 1 : Nat) : Int) from by omega]
            exact hoQ5.set_ _ _
          · exact CelAt.only hcd5 (by omega) (only_setCell (only_refl _ _) _ _)
          · exact below_only hbl5 (by omega) (only_setCell (only_refl _ _) _ _)
        case measure => simp [intOf] <;> omega
end Go.Proofs.YtohlilgnognmgaaGreatDoor
/-
  The walks of natural.Of and natural.DivMod.
-/
namespace Go.Proofs.YtohlilgnognmgaaGreatDoor
open Go.RowKit

theorem Res.mk' {w w' : World} {g k c : Nat} {r : List Nat} {m : Nat} (ho : Own 45 w' g r) (hL : Num.Lim r) (hk : k ≤ r.length) (hkc : k ≤ c) (hc : c ≤ 9223372036854775807) (hz : Num.Zer r k) (hn : Num.Nrm (r.take k)) (hv : Num.val r = m) (hb : Below w.heap.size w w') : Res w w' (.slice (some ⟨g, 0, none⟩) k c) m :=
  ⟨r.take k, ho.rdTake _ trivial hL k c hk hkc hc, hn, by rw [hz.val hk]; exact hv, hb⟩
theorem Own.new (w : World) (t : TypeId) (l : List Nat) : Own t (w.alloc (.cells (l.map Lv).toArray t)) w.heap.size l := heap_alloc_new w _

set_option maxRecDepth 4000 in
set_option maxHeartbeats 400000 in
theorem of_walk (n : Nat) (w : World) (hn : n < 18446744073709551616) :
    Calls Tryz.prog 78 #[.int .u64 (n : Int)] w fun e w' => ∃ v, e = .returned v ∧ Res w w' v n := by
  go_enter Tryz.func78, Tryz.ntmps78
  have hown : Own 45 (w.alloc (Obj.cells #[Value.int IntKind.u32 ((n : Int) % 4294967296), Value.int IntKind.u32 ((n : Int) / 4294967296)] 45)) w.heap.size [n % 4294967296, n / 4294967296] := by
    unfold Own
    rw [heap_alloc_new]
    simp [Lv]
  have hL : Num.Lim [n % 4294967296, n / 4294967296] := Num.Lim.cons (by rw [Num.K_eq]; exact Nat.mod_lt _ (by omega)) (Num.Lim.cons (by rw [Num.K_eq]; omega) Num.Lim.nil)
  have hb : Below w.heap.size w (w.alloc (Obj.cells #[Value.int IntKind.u32 ((n : Int) % 4294967296), Value.int IntKind.u32 ((n : Int) / 4294967296)] 45)) := (Below.refl _ _).alloc (Nat.le_refl _) _
  go_wp2_with fail
  refine (trim_walk (fun _ => True) _ 2 2 [n % 4294967296, n / 4294967296] _ rfl (Nat.le_refl _) (by omega) hown.celTop).mono ?_
  rintro e w' ⟨⟨k, hk, rfl, hz, hnr⟩, rfl⟩
  go_wp2
  go_ret
  refine ⟨_, rfl, Res.mk' hown hL (by simpa using hk) hk (by omega) hz hnr ?_ hb⟩
  simp only [Num.val, Num.K_eq]
  omega

/-- DivMod returns quotient, remainder and true. -/
def DivEnd (q r : Nat) (w : World) (e : Ending) (w' : World) : Prop := ∃ v1 v2, e = .returned (.tuple #[v1, v2, .bool true]) ∧ Res w w' v1 q ∧ Res w w' v2 r

set_option maxRecDepth 4000 in
set_option maxHeartbeats 1000000 in
theorem divmod_zero (va vb : Value) (la lb : List Nat) (w : World) (ha : Rd w (fun _ => True) va la) (hb : Rd w (fun _ => True) vb lb) (h0 : Num.val lb = 0) :
    Calls Tryz.prog 56 #[va, vb] w fun e w' => e = .returned (.tuple #[.slice none 0 0, .slice none 0 0, .bool false]) ∧ w = w' := by
  obtain ⟨A, n, c, rfl, Hn, hnc, hc, HLa, hA⟩ := ha.open_
  obtain ⟨B, m, d, rfl, Hm, hmd, hd, HLb, hB⟩ := hb.open_
  have H0 := Lib.hid h0
  clear ha hb h0
  go_enter Tryz.func56, Tryz.ntmps56
  go_wp2_with fail
  refine (trim_walk _ A n c la _ Hn.out.symm hnc hc hA).mono ?_
  rintro e w' ⟨⟨k1, hk1, rfl, hza, hna⟩, rfl⟩
  go_wp2_with fail
  refine (trim_walk _ B m d lb _ Hm.out.symm hmd hd hB).mono ?_
  rintro e w' ⟨⟨k2, hk2, rfl, hzb, hnb⟩, rfl⟩
  have e0 : k2 = 0 := by
    have h1 := hzb.val (by have := Hm.out; omega)
    have h2 := hnb.eq_nil (by rw [h1]; exact H0.out)
    have h3 : (lb.take k2).length = 0 := by rw [h2]; rfl
    rw [List.length_take] at h3
    have := Hm.out
    omega
  subst e0
  clear hza hna hzb hnb
  go_wp2
  go_ret3
  exact ⟨rfl, rfl⟩

set_option maxRecDepth 4000 in
set_option maxHeartbeats 4000000 in
theorem divmod_pos (va vb : Value) (la lb : List Nat) (w : World) (ha : Rd w (fun _ => True) va la) (hb : Rd w (fun _ => True) vb lb) (hla : la.length ≤ 10000000) (h0 : 0 < Num.val lb) :
    Calls Tryz.prog 56 #[va, vb] w (DivEnd (Num.val la / Num.val lb) (Num.val la % Num.val lb) w) := by
  obtain ⟨A, n, c, rfl, Hn, hnc, hc, HLa, hA⟩ := ha.open_
  obtain ⟨B, m, d, rfl, Hm, hmd, hd, HLb, hB⟩ := hb.open_
  have hn : n ≤ 10000000 := by have := Hn.out; omega
  have H0 := Lib.hid h0
  clear ha hb h0 hla
  go_enter Tryz.func56, Tryz.ntmps56
  go_wp2_with fail
  refine (trim_walk _ A n c la _ Hn.out.symm hnc hc hA).mono ?_
  rintro e w' ⟨⟨k1, hk1, rfl, hza, hna⟩, rfl⟩
  go_wp2_with fail
  refine (trim_walk _ B m d lb _ Hm.out.symm hmd hd hB).mono ?_
  rintro e w' ⟨⟨k2, hk2, rfl, hzb, hnb⟩, rfl⟩
  have Hva := Lib.hid (hza.val (by have := Hn.out; omega))
  have Hvb := Lib.hid (hzb.val (by have := Hm.out; omega))
  have La : Hid ((la.take k1).length = k1) := by show _ = _; have := Hn.out; rw [List.length_take]; omega
  have Lb : Hid ((lb.take k2).length = k2) := by show _ = _; have := Hm.out; rw [List.length_take]; omega
  have hA1 := hA.take k1
  have hB1 := hB.take k2
  have HLa1 : Hid (Num.Lim (la.take k1)) := HLa.out.take _
  have HLb1 : Hid (Num.Lim (lb.take k2)) := HLb.out.take _
  have Hna := Lib.hid hna
  have Hnb := Lib.hid hnb
  obtain ⟨la1, hla1⟩ : ∃ l, l = la.take k1 := ⟨_, rfl⟩
  obtain ⟨lb1, hlb1⟩ : ∃ l, l = lb.take k2 := ⟨_, rfl⟩
  rw [← hla1] at La Hva hA1 HLa1 Hna
  rw [← hlb1] at Lb Hvb hB1 HLb1 Hnb
  clear hla1 hlb1 hA hB hna hnb hza hzb
  have hk2p : 1 ≤ k2 := by
    rcases Nat.eq_zero_or_pos k2 with h | h
    · have h1 := Hvb.out
      have h2 := H0.out
      have h3 : lb1 = [] := List.eq_nil_of_length_eq_zero (by have := Lb.out; omega)
      rw [h3, Num.val_nil] at h1
      omega
    · exact h
  have t0 : ((k2 : Int) == 0) = false := by simp; omega
  by_cases hlt : k1 < k2
  · have hba : Below w.heap.size w (w.alloc (.cells #[] 45)) := (Below.refl _ _).alloc (Nat.le_refl _) _
    have Hless : Hid (Num.val la1 < Num.val lb1) := Num.Nrm.lt_of_length HLa1.out Hnb.out (by have := La.out; have := Lb.out; omega)
    go_wp2_with fail
    refine (clone_walk _ A k1 c la1 _ La.out (by omega) (hA1.below' hba)).mono ?_
    rintro e w1 ⟨_, rfl, g, rfl, hg, hown, hb1⟩
    rw [La.out]
    go_wp2
    go_ret3
    have hbw : Below w.heap.size w w1 := hba.trans (hb1.mono hba.size)
    refine ⟨_, _, rfl, ⟨[], ⟨_, 0, rfl, Nat.le_refl _, by omega, Num.Lim.nil, Cel.nil _ _ _⟩, Num.Nrm.nil, ?_, hbw⟩, ⟨la1, ?_, Hna.out, ?_, hbw⟩⟩
    · rw [← Hva.out, ← Hvb.out, Num.val_nil, Nat.div_eq_of_lt Hless.out]
    · have := hown.rd (fun _ => True) trivial HLa1.out (by have := La.out; omega)
      rwa [La.out] at this
    · rw [← Hva.out, ← Hvb.out, Nat.mod_eq_of_lt Hless.out]
  · by_cases h1 : k2 = 1
    · subst h1
      obtain ⟨gb, ob, rfl, _, hcb⟩ := hB1 (by have := Lb.out; omega)
      obtain ⟨x, hx⟩ : ∃ x, lb1 = [x] := by
        have := Lb.out
        match lb1, this with
        | [x], _ => exact ⟨x, rfl⟩
      have hcx := hcb 0 x (by rw [hx]; rfl)
      rw [Nat.add_zero] at hcx
      have hxb : x < 4294967296 := by have := HLb1.out; rw [hx] at this; exact this x (by simp)
      have hxv : Hid (Num.val lb1 = x) := by show _ = _; rw [hx, Num.val_one]
      have hx0 : 0 < x := by have h1 := hxv.out; have h2 := Hvb.out; have h3 := H0.out; omega
      clear hx hcb
      go_wp2_with fail
      refine (clone_walk _ A k1 c la1 _ La.out (by omega) hA1).mono ?_
      rintro e w1 ⟨_, rfl, g, rfl, hg, hown, hb1⟩
      rw [La.out]
      have hcx1 : w1.cell? ⟨gb, ob, none⟩ = some (.int .u32 (x : Int)) := by rw [hb1.cell (World.block_lt_of_cell? w _ hcx)]; exact hcx
      clear hcx
      go_wp2_with fail
      refine (divideByLimb_walk g k1 k1 x la1 w1 hown (by have := La.out; omega) (by omega) HLa1.out hx0 hxb).mono ?_
      rintro e w2 ⟨rm, hrm, rfl, q, hq, hLq, hvq, ho2, hg2⟩
      have Hrm := Lib.hid hrm
      have Hq := Lib.hid hq
      have Hvq := Lib.hid hvq
      have ho2' : Own 45 w2 g q := by rw [mid_whole _ _ (by have := La.out; omega)] at ho2; exact ho2
      have hrmb : rm < 4294967296 := by rw [hrm]; exact Nat.lt_trans (Nat.mod_lt _ hx0) hxb
      clear hrm hq hvq ho2
      go_wp2_with fail
      refine (trim_walk (fun _ => True) _ k1 k1 q w2 (by have := Hq.out; omega) (Nat.le_refl _) (by omega) ho2'.celTop).mono ?_
      rintro e w' ⟨⟨j, hj, rfl, hz, hnr⟩, rfl⟩
      have Hz := Lib.hid hz
      have Hnr := Lib.hid hnr
      clear hz hnr
      go_wp2_with fail
      refine (of_walk rm w2 (by omega)).mono ?_
      rintro e w3 ⟨v, rfl, l3, hrd3, hn3, hv3, hb3⟩
      go_wp2
      go_ret3
      have hbw2 : Below w.heap.size w w2 := below_only hb1 hg hg2
      have hbw : Below w.heap.size w w3 := hbw2.trans (hb3.mono hbw2.size)
      have ho3 := ho2'.below hb3 ho2'.lt
      have hdv : Num.val q = Num.val la / Num.val lb := by rw [Hvq.out, List.take_of_length_le (by have := La.out; omega), ← hxv.out, Hva.out, Hvb.out]
      refine ⟨_, _, rfl, Res.mk' ho3 hLq (by have := Hq.out; omega) hj (by omega) Hz.out Hnr.out hdv hbw, ⟨l3, hrd3, hn3, ?_, hbw⟩⟩
      rw [hv3, Hrm.out, List.take_of_length_le (by have := La.out; omega), ← hxv.out, Hva.out, Hvb.out]
    · have t1 : ((k2 : Int) == 1) = false := by simp; omega
      obtain ⟨m2, rfl⟩ : ∃ j, k2 = j + 2 := ⟨k2 - 2, by omega⟩
      clear h1
      go_wp2_with fail
      refine (divideLong_walk A B k1 m2 c d la1 lb1 _ La.out Lb.out (by omega) (by omega) hc (by omega) hd (by omega) hA1 hB1 HLa1.out HLb1.out Hnb.out).mono ?_
      rintro e w' ⟨v1, v2, rfl, hr1, hr2⟩
      go_wp2
      go_ret3
      rw [Hva.out, Hvb.out] at hr1 hr2
      exact ⟨v1, v2, rfl, hr1, hr2⟩
end Go.Proofs.YtohlilgnognmgaaGreatDoor
