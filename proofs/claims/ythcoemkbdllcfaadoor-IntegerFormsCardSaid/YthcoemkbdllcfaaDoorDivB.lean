/-
  The walk of natural.subtractProduct.
-/
import Derived.Test.YthcoemkbdllcfaaDoorDivA
namespace Go.Proofs.YthcoemkbdllcfaaDoor
open Go.RowKit

/-- The loop of subtractProduct. -/
def SpInv (e : TypeId) (g off k br dg : Nat) (l lb : List Nat) (w wr : World) : Prop :=
  ∃ r, r.length = k ∧ Num.Lim r ∧ Num.val r + dg * Num.val (lb.take k) = Num.val ((l.drop off).take k) + Num.K ^ k * br ∧ Wr e g off l r w wr
section
variable {e : TypeId} {g off k br dg : Nat} {l lb : List Nat} {w wr : World}
theorem SpInv.start (h : Own e w g l) : SpInv e g off 0 0 dg l lb w w := ⟨[], rfl, Num.Lim.nil, by simp [Num.val], Wr.start h⟩
theorem SpInv.cell (h : SpInv e g off k br dg l lb w wr) {x : Nat} (hx : l[off + k]? = some x) : wr.cell? ⟨g, off + k, none⟩ = some (.int .u32 (x : Int)) := by
  obtain ⟨r, hk, _, _, hw⟩ := h
  exact hw.cell hk hx
theorem SpInv.frozen (h : SpInv e g off k br dg l lb w wr) (i : Nat) : wr.frozen? ⟨g, i, none⟩ = false := by
  obtain ⟨r, hk, _, _, hw⟩ := h
  exact hw.1.frozen i
theorem SpInv.other (h : SpInv e g off k br dg l lb w wr) {g' o : Nat} (hne : g' ≠ g) {u : Value} (hc : w.cell? ⟨g', o, none⟩ = some u) : wr.cell? ⟨g', o, none⟩ = some u := by
  obtain ⟨r, hk, _, _, hw⟩ := h
  exact only_cell hw.2 hne hc
theorem sp_num (R B L P K br x y dg d br' : Nat) (hv : R + dg * B = L + P * br) (hd : d + (y * dg + br) = x + K * br') : R + P * d + dg * (B + P * y) = L + P * x + P * K * br' := by
  have h := congrArg (P * ·) hd
  simp only [Nat.mul_add, ← Nat.mul_assoc] at h ⊢
  have e1 : P * y * dg = dg * P * y := by rw [Nat.mul_comm (P * y) dg, Nat.mul_assoc]
  omega
theorem SpInv.step (h : SpInv e g off k br dg l lb w wr) {x y : Nat} (hx : l[off + k]? = some x) (hy : lb[k]? = some y) (d br' : Nat) (hd : d + (y * dg + br) = x + Num.K * br') (hdK : d < Num.K) (z : Int) (hz : z = (d : Int)) :
    SpInv e g off (k + 1) br' dg l lb w (wr.setCell ⟨g, off + k, none⟩ (.int .u32 z)) := by
  obtain ⟨r, hk, hr, hv, hw⟩ := h
  have hlt := (List.getElem?_eq_some_iff.1 hx).1
  refine ⟨r ++ [d], by simp [hk], hr.append (Num.Lim.cons hdK Num.Lim.nil), ?_, hw.step hk hlt d z hz⟩
  rw [Num.val_snoc, hk, val_take_succ (l.drop off) k x (by rw [List.getElem?_drop]; exact hx), val_take_succ lb k y hy, Nat.pow_succ]
  exact sp_num _ _ _ _ _ _ _ _ _ _ _ hv hd
end
/-- What subtractProduct leaves; bw: the borrow. -/
def SpPost (t : TypeId) (g off n dg : Nat) (l lb : List Nat) (w : World) (e : Ending) (w' : World) : Prop :=
  ∃ (r : List Nat) (bw : Nat), bw ≤ 1 ∧ e = .returned (.bool (decide (bw = 1))) ∧ r.length = n + 1 ∧ Num.Lim r ∧ Num.val r + dg * Num.val lb = Num.val ((l.drop off).take (n + 1)) + Num.K ^ (n + 1) * bw ∧ Wr t g off l r w w'
theorem sp_word (p x : Nat) (P : Int) (hP : P = (p : Int)) (hp : p ≤ 18446744069414584320) (hx : x < 4294967296) :
    ((x : Int) < P % 4294967296 → ∃ d br' : Nat, P / 4294967296 + 1 = (br' : Int) ∧ br' < 4294967296 ∧ ((x : Int) - P) % 4294967296 = (d : Int) ∧ d + p = x + Num.K * br' ∧ d < Num.K) ∧
    (¬ (x : Int) < P % 4294967296 → ∃ d br' : Nat, P / 4294967296 = (br' : Int) ∧ br' < 4294967296 ∧ (x : Int) - P % 4294967296 = (d : Int) ∧ d + p = x + Num.K * br' ∧ d < Num.K) := by
  subst hP
  simp only [Num.K_eq]
  exact ⟨fun h => ⟨x + 4294967296 - p % 4294967296, p / 4294967296 + 1, by omega, by omega, by omega, by omega, by omega⟩, fun h => ⟨x - p % 4294967296, p / 4294967296, by omega, by omega, by omega, by omega, by omega⟩⟩
theorem prod_le (y dg br : Nat) (hy : y < 4294967296) (hd : dg < 4294967296) (hb : br < 4294967296) : y * dg + br ≤ 18446744069414584320 := by
  have := mul_bound y dg hy hd
  omega
theorem SpInv.last {t : TypeId} {g off n br dg x : Nat} {l lb : List Nat} {w wr : World} (h : SpInv t g off n br dg l lb w wr) (hm : lb.length = n) (hx : l[off + n]? = some x) (d bw : Nat) (hbw : bw ≤ 1) (hd : d + br = x + Num.K * bw) (hdK : d < Num.K) (z : Int) (hz : z = (d : Int)) (e : Ending) (he : e = .returned (.bool (decide (bw = 1)))) :
    SpPost t g off n dg l lb w e (wr.setCell ⟨g, off + n, none⟩ (.int .u32 z)) := by
  obtain ⟨r, hr, hL, hv, hw⟩ := h
  have hlt := (List.getElem?_eq_some_iff.1 hx).1
  refine ⟨r ++ [d], bw, hbw, he, by simp [hr], hL.append (Num.Lim.cons hdK Num.Lim.nil), ?_, hw.step hr hlt d z hz⟩
  rw [List.take_of_length_le (l := lb) (by omega)] at hv
  rw [Num.val_snoc, hr, val_take_succ (l.drop off) n x (by rw [List.getElem?_drop]; exact hx), Nat.pow_succ]
  have := sp_num _ _ _ _ Num.K _ x 0 _ d bw hv (by rw [Nat.zero_mul, Nat.zero_add]; exact hd)
  rwa [Nat.mul_zero, Nat.add_zero] at this

set_option maxHeartbeats 2000000 in
theorem subtractProduct_walk (B : Option Addr) (g off n c d dg : Nat) (l lb : List Nat) (w : World) (hown : Own 46 w g l) (hfit : off + n + 1 ≤ l.length) (hc : n ≤ 1000000000) (hb : Cel w (· ≠ g) B lb) (hm : lb.length = n) (hL : Num.Lim l) (hLb : Num.Lim lb) (hdg : dg < 4294967296) :
    Calls Tryd.prog 86 #[.slice (some ⟨g, off, none⟩) (n + 1) c, .slice B n d, .int .u32 (dg : Int)] w (SpPost 46 g off n dg l lb w) := by
  have HL := Lib.hid hL
  have HLb := Lib.hid hLb
  have Hm := Lib.hid hm
  clear hm hL hLb
  go_enter Tryd.func86, Tryd.ntmps86
  go_wp2
  go_loopw [7, 16] (fun cy i wr => ∃ k : Nat, k ≤ n ∧ i = .int .i64 k ∧ ∃ br : Nat, br < 4294967296 ∧ cy = .int .u64 br ∧ SpInv 46 g off k br dg l lb w wr) (fun _ i _ => n - (intOf i).toNat)
  case atStart => exact ⟨0, Nat.zero_le _, rfl, 0, by omega, rfl, SpInv.start hown⟩
  case round =>
    obtain ⟨k, hk, rfl, br, hbr, rfl, hinv⟩ := hrel
    by_cases hlt : k < n
    · obtain ⟨x, hx⟩ : ∃ x, l[off + k]? = some x := ⟨_, List.getElem?_eq_getElem (by omega)⟩
      have hxb : x < 4294967296 := HL.out.at hx
      have hcell := hinv.cell hx
      have hfr := hinv.frozen (off + k)
      have Hx := Lib.hid hx
      clear hx
      obtain ⟨g', off', rfl, hg', hcb⟩ := hb (by have := Hm.out; omega)
      obtain ⟨y, hy⟩ : ∃ y, lb[k]? = some y := ⟨_, List.getElem?_eq_getElem (by have := Hm.out; omega)⟩
      have hyb : y < 4294967296 := HLb.out.at hy
      have hcelly := hinv.other hg' (hcb _ _ hy)
      have Hy := Lib.hid hy
      clear hy hcb
      have hp0 : (0 : Int) ≤ (y : Int) * (dg : Int) := Int.mul_nonneg (by omega) (by omega)
      have hp1 : (y : Int) * (dg : Int) ≤ 18446744065119617025 := by have := mul_bound y dg hyb hdg; rw [← Int.natCast_mul]; omega
      have HS := Lib.hid (sp_word (y * dg + br) x ((y : Int) * (dg : Int) + (br : Int)) (by simp) (prod_le y dg br hyb hdg hbr) hxb)
      by_cases hb1 : (x : Int) < ((y : Int) * (dg : Int) + (br : Int)) % 4294967296
      · go_wp2
        go_roundw
        case rel =>
          obtain ⟨d, br', h1, h2, h3, h4, h5⟩ := HS.out.1 hb1
          exact ⟨k + 1, by omega, by go_num, br', h2, int_u64 h1, hinv.step Hx.out Hy.out d br' h4 h5 _ h3⟩
        case measure => simp [intOf] <;> omega
      · go_wp2
        go_roundw
        case rel =>
          obtain ⟨d, br', h1, h2, h3, h4, h5⟩ := HS.out.2 hb1
          exact ⟨k + 1, by omega, by go_num, br', h2, int_u64 h1, hinv.step Hx.out Hy.out d br' h4 h5 _ h3⟩
        case measure => simp [intOf] <;> omega
    · have hkk : k = n := by omega
      subst hkk
      obtain ⟨x, hx⟩ : ∃ x, l[off + k]? = some x := ⟨_, List.getElem?_eq_getElem (by omega)⟩
      have hxb : x < 4294967296 := HL.out.at hx
      have hcell := hinv.cell hx
      have hfr := hinv.frozen (off + k)
      have Hx := Lib.hid hx
      clear hx
      by_cases hb1 : (x : Int) < (br : Int)
      · go_wp2
        go_ret
        exact hinv.last Hm.out Hx.out (x + 4294967296 - br) 1 (by omega) (by rw [Num.K_eq]; omega) (by rw [Num.K_eq]; omega) _ (by omega) _ rfl
      · go_wp2
        go_ret
        exact hinv.last Hm.out Hx.out (x - br) 0 (by omega) (by rw [Num.K_eq]; omega) (by rw [Num.K_eq]; omega) _ (by omega) _ rfl
end Go.Proofs.YthcoemkbdllcfaaDoor
