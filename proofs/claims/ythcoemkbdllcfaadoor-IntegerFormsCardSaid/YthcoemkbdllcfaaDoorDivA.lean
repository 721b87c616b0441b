/-
  The walks of natural.divideByLimb, shiftLeft and shiftRight.
-/
import Derived.Test.YthcoemkbdllcfaaDoorMul
import Derived.Laws.BitsAllLaws
import Derived.Laws.BitsLemmas
namespace Go.Proofs.YthcoemkbdllcfaaDoor
open Go.RowKit

/-- A call returns a number in memory of its own, whose limbs satisfy f. -/
def RetNew (w : World) (f : List Nat → Prop) (e : Ending) (w' : World) : Prop := ∃ v r, e = .returned v ∧ New w w' v r ∧ f r
theorem or_word (a x : Nat) (ha : a < 4294967296) (hx : x < 4294967296) : bits .or .u64 ((a : Int) * 4294967296) (x : Int) = (a : Int) * 4294967296 + x := by
  have h := u64_or_nat (a * 4294967296) x (by omega) (by omega)
  rw [nat_join 32 (a * 4294967296) x (by omega) (by omega)] at h
  simpa using h
theorem mid_front (l q : List Nat) (k x : Nat) (hk : k < l.length) : (mid l (k + 1) q).set k x = mid l k (x :: q) := by
  unfold mid
  rw [List.take_add_one, List.getElem?_eq_getElem hk]
  simp only [Option.toList]
  have e : (l.take k).length = k := by simp; omega
  rw [List.append_assoc, List.set_append_right _ _ (by omega), e]
  simp [show k + 1 + q.length = k + (q.length + 1) from by omega]
theorem mid_before (l q : List Nat) (k j : Nat) (hk : k ≤ l.length) (hj : j < k) : (mid l k q)[j]? = l[j]? := by
  unfold mid
  rw [List.getElem?_append_left (by simp; omega), List.getElem?_take_of_lt hj]
/-- The loop of divideByLimb: the limbs from k on are divided. -/
def LimbInv (e : TypeId) (g k n d rest : Nat) (l : List Nat) (w wr : World) : Prop :=
  ∃ q, k + q.length = n ∧ Num.Lim q ∧ Num.val ((l.take n).drop k) = d * Num.val q + rest ∧ Own e wr g (mid l k q) ∧ w.grownBy wr (some g)
section
variable {e : TypeId} {g k n d rest : Nat} {l : List Nat} {w wr : World}
theorem LimbInv.start (h : Own e w g l) (hn : n ≤ l.length) : LimbInv e g n n d 0 l w w :=
  ⟨[], rfl, Num.Lim.nil, by rw [List.drop_of_length_le (by simp; omega)]; simp [Num.val], by rw [mid_nil]; exact h, only_refl _ _⟩
theorem LimbInv.cell (h : LimbInv e g (k + 1) n d rest l w wr) (hn : n ≤ l.length) {x : Nat} (hx : l[k]? = some x) : wr.cell? ⟨g, k, none⟩ = some (.int .u32 (x : Int)) := by
  obtain ⟨q, hk, _, _, ho, _⟩ := h
  have := ho.cel k x (by rw [mid_before l q (k + 1) k (by omega) (by omega)]; exact hx)
  rwa [Nat.zero_add] at this
theorem LimbInv.frozen (h : LimbInv e g k n d rest l w wr) (i : Nat) : wr.frozen? ⟨g, i, none⟩ = false := by
  obtain ⟨q, hk, _, _, ho, _⟩ := h
  exact ho.frozen i
theorem limb_num (V K d q rest x t dg r : Nat) (hv : V = d * q + rest) (ht : t = rest * K + x) (hd : t = d * dg + r) : x + K * V = d * (dg + K * q) + r := by
  subst hv
  rw [Nat.mul_add, Nat.mul_add, ← Nat.mul_assoc, ← Nat.mul_assoc, Nat.mul_comm K d, Nat.mul_comm K rest]
  omega
theorem LimbInv.step (h : LimbInv e g (k + 1) n d rest l w wr) (hn : n ≤ l.length) {x : Nat} (hx : l[k]? = some x) (hr : rest < d) (hxb : x < 4294967296) (z : Int) (hz : z = (((rest * 4294967296 + x) / d : Nat) : Int)) :
    LimbInv e g k n d ((rest * 4294967296 + x) % d) l w (wr.setCell ⟨g, k, none⟩ (.int .u32 z)) := by
  obtain ⟨q, hk, hq, hv, ho, hg⟩ := h
  subst hz
  have hlt := (List.getElem?_eq_some_iff.1 hx).1
  have hdg : (rest * 4294967296 + x) / d < Num.K := by
    rw [Nat.div_lt_iff_lt_mul (by omega), Num.K_eq]
    have := Nat.mul_le_mul_right 4294967296 (show rest + 1 ≤ d from hr)
    rw [Nat.mul_comm 4294967296 d]
    omega
  refine ⟨_ :: q, by simp; omega, Num.Lim.cons hdg hq, ?_, by rw [← mid_front l q k _ hlt]; exact ho.set_ _ _, only_setCell hg _ _⟩
  have hkn : k < (l.take n).length := by simp; omega
  have e1 : (l.take n).drop k = x :: (l.take n).drop (k + 1) := by
    rw [List.drop_eq_getElem_cons hkn]
    congr 1
    have h1 : (l.take n)[k]? = some x := by rw [List.getElem?_take_of_lt (by omega)]; exact hx
    exact (List.getElem?_eq_some_iff.1 h1).2
  rw [e1, Num.val_cons, Num.val_cons]
  exact limb_num _ _ _ _ _ _ _ _ _ hv (by rw [Num.K_eq]) (Nat.div_add_mod _ _).symm
end
theorem limb_lt (r x d : Nat) (hr : r < d) (hx : x < 4294967296) : (r * 4294967296 + x) / d < 4294967296 := by
  rw [Nat.div_lt_iff_lt_mul (by omega)]
  have := Nat.mul_le_mul_right 4294967296 (show r + 1 ≤ d from hr)
  rw [Nat.mul_comm 4294967296 d]
  omega
theorem limb_digit (r x d : Nat) (hr : r < d) (hx : x < 4294967296) : ((r : Int) * 4294967296 + x) / d % 4294967296 = (((r * 4294967296 + x) / d : Nat) : Int) := by
  have h := limb_lt r x d hr hx
  have e : ((r : Int) * 4294967296 + x) / d = (((r * 4294967296 + x) / d : Nat) : Int) := by simp
  rw [e]
  generalize (r * 4294967296 + x) / d = q at h ⊢
  omega
/-- What divideByLimb leaves: the quotient in the first n limbs. -/
def LimbPost (e : TypeId) (g n d : Nat) (l : List Nat) (w w' : World) : Prop :=
  ∃ q, q.length = n ∧ Num.Lim q ∧ Num.val q = Num.val (l.take n) / d ∧ Own e w' g (mid l 0 q) ∧ w.grownBy w' (some g)
def LimbEnd (t : TypeId) (g n d : Nat) (l : List Nat) (w : World) (e : Ending) (w' : World) : Prop := ∃ m : Nat, m = Num.val (l.take n) % d ∧ e = .returned (.int .u32 (m : Int)) ∧ LimbPost t g n d l w w'

set_option maxHeartbeats 1000000 in
theorem divideByLimb_walk (g n c d : Nat) (l : List Nat) (w : World) (hown : Own 46 w g l) (hfit : n ≤ l.length) (hc : n ≤ 9223372036854775807) (hL : Num.Lim l) (hd : 0 < d) (hdb : d < 4294967296) :
    Calls Tryd.prog 67 #[.slice (some ⟨g, 0, none⟩) n c, .int .u32 (d : Int)] w (LimbEnd 46 g n d l w) := by
  have HL := Lib.hid hL
  clear hL
  go_enter Tryd.func67, Tryd.ntmps67
  go_wp2
  go_loopw [5, 6] (fun cy i wr => ∃ k : Nat, k ≤ n ∧ i = .int .i64 ((k : Int) - 1) ∧ ∃ r : Nat, r < d ∧ cy = .int .u64 r ∧ LimbInv 46 g k n d r l w wr) (fun _ i _ => (intOf i + 1).toNat)
  case atStart => exact ⟨n, Nat.le_refl _, rfl, 0, hd, rfl, LimbInv.start hown hfit⟩
  case round =>
    obtain ⟨k, hk, rfl, r, hr, rfl, hinv⟩ := hrel
    by_cases h0 : k = 0
    · have hk0 : ¬ 0 ≤ (k : Int) - 1 := by omega
      have Hk := Lib.hid h0
      clear h0
      go_wp2
      go_ret
      rw [Hk.out] at hinv
      obtain ⟨q, hq, hLq, hv, ho, hg⟩ := hinv
      rw [List.drop_zero] at hv
      refine ⟨r, ?_, ?_, q, by omega, hLq, ?_, ho, hg⟩
      · rw [hv, Nat.mul_add_mod, Nat.mod_eq_of_lt hr]
      · first | rfl | (congr 2; omega)
      · rw [hv, Nat.mul_add_div hd, Nat.div_eq_of_lt hr, Nat.add_zero]
    · obtain ⟨k, rfl⟩ : ∃ j, k = j + 1 := ⟨k - 1, by omega⟩
      have hk0 : 0 ≤ ((k + 1 : Nat) : Int) - 1 := by omega
      have hkt : (((k + 1 : Nat) : Int) - 1).toNat = k := by omega
      obtain ⟨x, hx⟩ : ∃ x, l[k]? = some x := ⟨_, List.getElem?_eq_getElem (by omega)⟩
      have hxb : x < 4294967296 := HL.out.at hx
      have hcell := hinv.cell hfit hx
      have hfr := hinv.frozen k
      have Hx := Lib.hid hx
      have hor := or_word r x (by omega) hxb
      clear hx h0
      have HZ := Lib.hid (limb_digit r x d hr hxb)
      go_wp2
      go_roundw
      case rel => exact ⟨k, by omega, rfl, (r * 4294967296 + x) % d, Nat.mod_lt _ hd, int_u64 (by simp), hinv.step hfit Hx.out hr hxb _ HZ.out⟩
      case measure => simp [intOf] <;> omega
/-- A limb x that is shifted by s, over h, which is below 2^s: the low limb and the high one. -/
theorem shl_word (x h s : Nat) (hx : x < 4294967296) (hh : h < 2 ^ s) (hs : s ≤ 31) :
    ∃ lo hi : Nat, bits .or .u32 (h : Int) (IntKind.u64.wrap ((x : Int) * 2 ^ s) % 4294967296) = (lo : Int) ∧ IntKind.u64.wrap ((x : Int) * 2 ^ s) / 4294967296 % 4294967296 = (hi : Int) ∧ lo + Num.K * hi = h + x * 2 ^ s ∧ lo < Num.K ∧ hi < 2 ^ s := by
  have hp : 2 ^ s ≤ 2147483648 := Nat.le_trans (Nat.pow_le_pow_right (by omega) hs) (by decide)
  have hpd : 2 ^ s ∣ 4294967296 := by
    have : (2 : Nat) ^ s ∣ 2 ^ 32 := Nat.pow_dvd_pow 2 (by omega)
    simpa using this
  have h0 : 0 < 2 ^ s := Nat.pow_pos (by omega)
  have hc : (x : Int) * 2 ^ s = ((x * 2 ^ s : Nat) : Int) := by simp
  have hm : x * 2 ^ s < 4294967296 * 2 ^ s := Nat.mul_lt_mul_of_pos_right hx h0
  have hlow : x * 2 ^ s % 4294967296 % 2 ^ s = 0 := by rw [Nat.mod_mod_of_dvd _ hpd, Nat.mul_mod_left]
  have hhi : x * 2 ^ s / 4294967296 < 2 ^ s := by rw [Nat.div_lt_iff_lt_mul (by omega), Nat.mul_comm (2 ^ s) 4294967296]; exact hm
  have hw : IntKind.u64.wrap ((x : Int) * 2 ^ s) = ((x * 2 ^ s : Nat) : Int) := by rw [hc, IntKind.wrap_u64]; omega
  have hdm := Nat.mod_add_div (x * 2 ^ s) 4294967296
  have hlo : h + x * 2 ^ s % 4294967296 < 4294967296 := by
    obtain ⟨c, hcc⟩ := hpd
    have hd1 : x * 2 ^ s % 4294967296 = 2 ^ s * (x * 2 ^ s % 4294967296 / 2 ^ s) := by
      have := Nat.div_add_mod (x * 2 ^ s % 4294967296) (2 ^ s)
      omega
    have hlt : x * 2 ^ s % 4294967296 < 4294967296 := Nat.mod_lt _ (by omega)
    generalize x * 2 ^ s % 4294967296 / 2 ^ s = j at hd1
    have hjc : j < c := by
      rcases Nat.lt_or_ge j c with h | h
      · exact h
      · have := Nat.mul_le_mul_left (2 ^ s) h
        omega
    have := Nat.mul_le_mul_left (2 ^ s) (show j + 1 ≤ c from hjc)
    rw [Nat.mul_add, Nat.mul_one] at this
    omega
  refine ⟨h + x * 2 ^ s % 4294967296, x * 2 ^ s / 4294967296, ?_, ?_, by rw [Num.K_eq]; omega, by rw [Num.K_eq]; exact hlo, hhi⟩
  · rw [hw]
    have e : ((x * 2 ^ s : Nat) : Int) % 4294967296 = ((x * 2 ^ s % 4294967296 : Nat) : Int) := by omega
    rw [e, u32_or_nat _ _ (by omega) (Nat.mod_lt _ (by omega)), Nat.or_comm, nat_join s _ _ hlow hh]
    omega
  · rw [hw]
    generalize x * 2 ^ s = t at hm hhi ⊢
    omega
theorem shl_num (T P K h L x s lo hi : Nat) (hv : T + P * h = L * s) (he : lo + K * hi = h + x * s) : T + P * lo + P * K * hi = (L + P * x) * s := by
  have := congrArg (P * ·) he
  simp only [Nat.mul_add, Nat.add_mul, ← Nat.mul_assoc] at this ⊢
  omega

/-- The loop of shiftLeft: k limbs are done. -/
def ShlInv (e : TypeId) (g k s n : Nat) (la : List Nat) (w wr : World) : Prop :=
  ∃ l h, l.length = n + 1 ∧ Num.Lim l ∧ Num.val (l.take (k + 1)) = Num.val (la.take k) * 2 ^ s ∧ l[k]? = some h ∧ h < 2 ^ s ∧ Own e wr g l ∧ w.grownBy wr (some g)

set_option maxHeartbeats 1000000 in
theorem shiftLeft_walk (A : Option Addr) (n c s : Nat) (l : List Nat) (w : World) (hn : l.length = n) (hnc : n ≤ c) (_hc : c ≤ 9223372036854775807) (hnb : n ≤ 20000000) (hA : Cel w (fun _ => True) A l) (hL : Num.Lim l) (hs : s ≤ 31) :
    Calls Tryd.prog 84 #[.slice A n c, .int .i64 (s : Int)] w (RetNew w fun r => r.length = n + 1 ∧ Num.Lim r ∧ Num.val r = Num.val l * 2 ^ s ∧ ∃ h, r[n]? = some h ∧ h < 2 ^ s) := by
  obtain ⟨i0, hi, hz0, hz1, hz2⟩ := info_parts info_u32
  have HL := Lib.hid hL
  have Hn := Lib.hid hn
  clear hL hn
  go_enter Tryd.func84, Tryd.ntmps84
  go_wp2_with (at_make; refine wpList_make_u32 _ rfl (.tmp 11) (.tmp 11) 23 rfl 46 i0 Tryd.underlying23 hi hz0 hz1 hz2 .i64 .i64 _ _ (n + 1) rfl rfl (by omega) (by omega) (by omega) ?_; intro g w1 hg1 hown1 hb1 hs1; have Hg := Lib.hid hg1; clear hg1)
  have hA2 : Cel w1 (· ≠ g) A l := hA.old.keep (fun i hi => by have := Hg.out; have := hi.2; omega) (fun i o hi => hb1.cell (p := ⟨i, o, none⟩) hi.2)
  go_loopw [15] (fun i wr => ∃ k : Nat, k ≤ n ∧ i = .int .i64 k ∧ ShlInv 46 g k s n l w1 wr) (fun i _ => n - (intOf i).toNat)
  case atStart => exact ⟨0, Nat.zero_le _, rfl, _, 0, by simp, Num.Lim.replicate _, by simp [List.take_replicate, Num.val], by simp, Nat.pow_pos (by omega), hown1, only_refl _ _⟩
  case round =>
    obtain ⟨k, hk, rfl, la, h, hla, hLa, hv, hh, hhs, hown, hgr⟩ := hrel
    have Hla := Lib.hid hla
    have HLa := Lib.hid hLa
    have Hv := Lib.hid hv
    clear hla hLa hv
    by_cases hlt : k < n
    · obtain ⟨x, hx⟩ : ∃ x, l[k]? = some x := ⟨_, List.getElem?_eq_getElem (by have := Hn.out; omega)⟩
      have hxb : x < 4294967296 := HL.out.at hx
      obtain ⟨g', off', rfl, hg', hca⟩ := hA2 (by have := Hn.out; omega)
      have hcx := only_cell hgr hg' (hca _ _ hx)
      have hch := hown.cel _ _ hh
      rw [Nat.zero_add] at hch
      have hf1 := hown.frozen k
      have hf2 := hown.frozen (k + 1)
      obtain ⟨y, hy⟩ : ∃ y, la[k + 1]? = some y := ⟨_, List.getElem?_eq_getElem (by have := Hla.out; omega)⟩
      have hcy := hown.cel _ _ hy
      rw [Nat.zero_add] at hcy
      have Hx := Lib.hid hx
      have Hh := Lib.hid hh
      clear hx hca hy hh
      have HS := Lib.hid (shl_word x h s hxb hhs hs)
      go_wp2
      go_roundw
      case rel =>
        obtain ⟨lo, hi', e1, e2, e3, e4, e5⟩ := HS.out
        rw [e1, e2]
        refine ⟨k + 1, by omega, by go_num, (la.set k lo).set (k + 1) hi', hi', by simp [Hla.out], (HLa.out.set _ _ e4).set _ _ (Nat.lt_of_lt_of_le e5 (Nat.le_trans (Nat.pow_le_pow_right (by omega) hs) (by decide))), ?_, by rw [List.getElem?_set_self (by simp [Hla.out]; omega)], e5, (hown.set_ _ _).set_ _ _, only_setCell (only_setCell hgr _ _) _ _⟩
        rw [val_take_succ _ (k + 1) hi' (by rw [List.getElem?_set_self (by simp [Hla.out]; omega)]), List.take_set_of_le (Nat.le_refl _), val_take_succ _ k lo (by rw [List.getElem?_set_self (by simp [Hla.out]; omega)]), List.take_set_of_le (Nat.le_refl _), val_take_succ l k x Hx.out]
        have h1 := Hv.out
        rw [val_take_succ la k h Hh.out] at h1
        rw [Nat.pow_succ]
        exact shl_num _ _ _ _ _ _ _ _ _ h1 e3
      case measure => simp [intOf] <;> omega
    · have hkk : k = n := by omega
      have Hkk := Lib.hid hkk
      clear hkk
      go_wp2
      go_ret
      have e1 := Hkk.out
      subst e1
      refine ⟨_, la, rfl, ⟨g, by rw [Hla.out]; rfl, by have := Hg.out; omega, hown, hb1.trans ⟨hgr.os, hgr.tape, hgr.output, hgr.size, fun i hi => hgr.block i (Nat.lt_of_lt_of_le hi hb1.size) (by intro e; injection e with e; have := Hg.out; omega)⟩⟩, Hla.out, HLa.out, ?_, h, hh, hhs⟩
      have h1 := Hv.out
      rwa [List.take_of_length_le (by have := Hla.out; omega), List.take_of_length_le (by have := Hn.out; omega)] at h1
theorem shr_num (x V K p : Nat) (hK : 0 < K) (hp : 0 < p) (hd : p ∣ K) (hx : x < K) : ((V % K) * K + x) / p % K + K * (V / p) = (x + K * V) / p := by
  obtain ⟨u, rfl⟩ := hd
  have hV := Nat.div_add_mod V (p * u)
  have e1 : ((V % (p * u)) * (p * u) + x) / p / (p * u) = V % (p * u) / p := by
    rw [Nat.div_div_eq_div_mul, Nat.mul_comm p (p * u), ← Nat.div_div_eq_div_mul, Nat.add_comm, Nat.add_mul_div_right _ _ hK, Nat.div_eq_of_lt hx, Nat.zero_add]
  have e2 : x + p * u * V = (V % (p * u)) * (p * u) + x + p * (u * (p * u) * (V / (p * u))) := by
    have := congrArg ((p * u) * ·) hV
    simp only [Nat.mul_add] at this
    rw [← this, Nat.mul_comm (V % (p * u)) (p * u)]
    have : p * (u * (p * u) * (V / (p * u))) = p * u * (p * u * (V / (p * u))) := by simp only [Nat.mul_assoc]
    omega
  have e3 : V / p = V % (p * u) / p + u * (V / (p * u)) := by
    have : V = V % (p * u) + p * (u * (V / (p * u))) := by rw [← Nat.mul_assoc]; omega
    rw [show V / p = (V % (p * u) + p * (u * (V / (p * u)))) / p from by rw [← this], Nat.add_mul_div_left _ _ hp]
  rw [e2, Nat.add_mul_div_left _ _ hp, e3, Nat.mul_add, ← e1]
  have h := Nat.mod_add_div ((V % (p * u) * (p * u) + x) / p) (p * u)
  have e4 : p * u * (u * (V / (p * u))) = u * (p * u) * (V / (p * u)) := by
    rw [← Nat.mul_assoc, Nat.mul_comm (p * u) u]
  omega
theorem shr_word (c x : Nat) (hx : x < 4294967296) : ∃ W : Nat, W = (c % 4294967296) * 4294967296 + x ∧ W < 18446744073709551616 ∧ bits .or .u64 (IntKind.u64.wrap ((c : Int) * 4294967296)) (x : Int) = (W : Int) := by
  refine ⟨_, rfl, by omega, ?_⟩
  have e : IntKind.u64.wrap ((c : Int) * 4294967296) = ((c % 4294967296 : Nat) : Int) * 4294967296 := by rw [IntKind.wrap_u64]; omega
  rw [e, or_word _ _ (Nat.mod_lt _ (by omega)) hx]
  omega
/-- The loop of shiftRight: the limbs from k on are done. -/
def ShrInv (e : TypeId) (g k s n c : Nat) (la : List Nat) (w wr : World) : Prop :=
  ∃ q, k + q.length = n ∧ Num.Lim q ∧ Num.val q = Num.val (la.drop k) / 2 ^ s ∧ c % 4294967296 = Num.val (la.drop k) % 4294967296 ∧ Own e wr g (mid (List.replicate n 0) k q) ∧ w.grownBy wr (some g)
theorem drop_cons {l : List Nat} {k x : Nat} (hx : l[k]? = some x) : l.drop k = x :: l.drop (k + 1) := by
  have hk := (List.getElem?_eq_some_iff.1 hx).1
  rw [List.drop_eq_getElem_cons hk, (List.getElem?_eq_some_iff.1 hx).2]
theorem ShrInv.step {e : TypeId} {g k s n c W x : Nat} {la : List Nat} {w wr : World} (h : ShrInv e g (k + 1) s n c la w wr) (hx : la[k]? = some x) (hxb : x < 4294967296) (hs : s ≤ 31) (hW : W = (c % 4294967296) * 4294967296 + x) (z : Int) (hz : z = ((W / 2 ^ s % 4294967296 : Nat) : Int)) :
    ShrInv e g k s n W la w (wr.setCell ⟨g, k, none⟩ (.int .u32 z)) := by
  obtain ⟨q, hk, hq, hv, hc, ho, hg⟩ := h
  subst hz
  have hpd : 2 ^ s ∣ 4294967296 := by
    have : (2 : Nat) ^ s ∣ 2 ^ 32 := Nat.pow_dvd_pow 2 (by omega)
    simpa using this
  have hn := shr_num x (Num.val (la.drop (k + 1))) 4294967296 (2 ^ s) (by omega) (Nat.pow_pos (by omega)) hpd hxb
  refine ⟨(W / 2 ^ s % 4294967296) :: q, by simp; omega, Num.Lim.cons (Nat.mod_lt _ (by decide)) hq, ?_, ?_, by rw [← mid_front _ q k _ (by simp; omega)]; exact ho.set_ _ _, only_setCell hg _ _⟩
  · rw [drop_cons hx, Num.val_cons, Num.val_cons, hv, hW, hc, Num.K_eq]
    exact hn
  · rw [drop_cons hx, Num.val_cons, hW, Num.K_eq]
    omega

set_option maxRecDepth 4000 in
set_option maxHeartbeats 1000000 in
theorem shiftRight_walk (A : Option Addr) (n c s : Nat) (l : List Nat) (w : World) (hn : l.length = n) (_hnc : n ≤ c) (_hc : c ≤ 9223372036854775807) (hnb : n ≤ 20000000) (hA : Cel w (fun _ => True) A l) (hL : Num.Lim l) (hs : s ≤ 31) :
    Calls Tryd.prog 87 #[.slice A n c, .int .i64 (s : Int)] w (RetNew w fun r => r.length = n ∧ Num.Lim r ∧ Num.val r = Num.val l / 2 ^ s) := by
  obtain ⟨i0, hi, hz0, hz1, hz2⟩ := info_parts info_u32
  have HL := Lib.hid hL
  have Hn := Lib.hid hn
  clear hL hn
  go_enter Tryd.func87, Tryd.ntmps87
  go_wp2_with (at_make; refine wpList_make_u32 _ rfl (.tmp 10) (.tmp 10) 23 rfl 46 i0 Tryd.underlying23 hi hz0 hz1 hz2 .i64 .i64 _ _ n rfl rfl (by omega) (by omega) (by omega) ?_; intro g w1 hg1 hown1 hb1 hs1; have Hg := Lib.hid hg1; clear hg1)
  have hA2 : Cel w1 (· ≠ g) A l := hA.old.keep (fun i hi => by have := Hg.out; have := hi.2; omega) (fun i o hi => hb1.cell (p := ⟨i, o, none⟩) hi.2)
  go_loopw [6, 7] (fun cy i wr => ∃ k : Nat, k ≤ n ∧ i = .int .i64 ((k : Int) - 1) ∧ ∃ cr : Nat, cr < 18446744073709551616 ∧ cy = .int .u64 cr ∧ ShrInv 46 g k s n cr l w1 wr) (fun _ i _ => (intOf i + 1).toNat)
  case atStart => exact ⟨n, Nat.le_refl _, rfl, 0, by omega, rfl, [], rfl, Num.Lim.nil, by rw [List.drop_of_length_le (by have := Hn.out; omega)]; simp [Num.val], by rw [List.drop_of_length_le (by have := Hn.out; omega)]; rfl, by rw [mid_nil]; exact hown1, only_refl _ _⟩
  case round =>
    obtain ⟨k, hk, rfl, cr, hcr, rfl, hinv⟩ := hrel
    by_cases h0 : k = 0
    · have hk0 : ¬ 0 ≤ (k : Int) - 1 := by omega
      have Hk := Lib.hid h0
      clear h0
      go_wp2
      go_ret
      rw [Hk.out] at hinv
      obtain ⟨q, hq, hLq, hv, _, ho, hg⟩ := hinv
      rw [List.drop_zero] at hv
      have hql : q.length = n := by omega
      exact ⟨_, q, rfl, ⟨g, by rw [hql]; rfl, by have := Hg.out; omega, by rwa [mid_whole _ _ (by simp [hql])] at ho, hb1.trans ⟨hg.os, hg.tape, hg.output, hg.size, fun i hi => hg.block i (Nat.lt_of_lt_of_le hi hb1.size) (by intro e; injection e with e; have := Hg.out; omega)⟩⟩, hql, hLq, hv⟩
    · obtain ⟨k, rfl⟩ : ∃ j, k = j + 1 := ⟨k - 1, by omega⟩
      have hk0 : 0 ≤ ((k + 1 : Nat) : Int) - 1 := by omega
      have hkt : (((k + 1 : Nat) : Int) - 1).toNat = k := by omega
      obtain ⟨x, hx⟩ : ∃ x, l[k]? = some x := ⟨_, List.getElem?_eq_getElem (by have := Hn.out; omega)⟩
      have hxb : x < 4294967296 := HL.out.at hx
      obtain ⟨g', off', rfl, hg', hca⟩ := hA2 (by have := Hn.out; omega)
      have hcx : wr.cell? ⟨g', off' + k, none⟩ = some (.int .u32 (x : Int)) := by
        obtain ⟨q, _, _, _, _, _, hg⟩ := hinv
        exact only_cell hg hg' (hca _ _ hx)
      have hfr : wr.frozen? ⟨g, k, none⟩ = false := by
        obtain ⟨q, _, _, _, _, ho, _⟩ := hinv
        exact ho.frozen k
      have hcell : ∃ u, wr.cell? ⟨g, k, none⟩ = some u := by
        obtain ⟨q, hq, _, _, _, ho, _⟩ := hinv
        have := ho.cel k _ (List.getElem?_eq_getElem (by rw [mid_length _ _ _ (by simp; omega)]; simp; omega))
        rw [Nat.zero_add] at this
        exact ⟨_, this⟩
      obtain ⟨u, hu⟩ := hcell
      obtain ⟨W, hW, hWb, hor⟩ := shr_word cr x hxb
      have Hx := Lib.hid hx
      have HW := Lib.hid hW
      clear hx h0 hca hW
      go_wp2
      go_roundw
      case rel => exact ⟨k, by omega, rfl, W, hWb, rfl, hinv.step Hx.out hxb hs HW.out _ (by simp)⟩
      case measure => simp [intOf] <;> omega
end Go.Proofs.YthcoemkbdllcfaaDoor
