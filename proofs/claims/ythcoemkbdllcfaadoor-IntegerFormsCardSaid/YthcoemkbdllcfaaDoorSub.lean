/-
  The walk of natural.Sub: the difference and true, or nil and false.
-/
import Derived.Test.YthcoemkbdllcfaaDoorCmp
namespace Go.Proofs.YthcoemkbdllcfaaDoor
open Go.RowKit

theorem below_drewN {B : Nat} {a w : World} (h : Below B a w) (n : Nat) : Below B a (w.drewN n) := ⟨h.os, h.tape, h.output, h.size, h.block⟩
theorem Cel.drewN {w : World} {S : Nat → Prop} {A : Option Addr} {l : List Nat} (h : Cel w S A l) (n : Nat) : Cel (w.drewN n) S A l := h

set_option maxHeartbeats 1000000 in
theorem sub_lt (va vb : Value) (la lb : List Nat) (w : World) (ha : Rd w (fun _ => True) va la) (hb : Rd w (fun _ => True) vb lb) (hlt : Num.val la < Num.val lb) :
    Calls Tryd.prog 47 #[va, vb] w fun e w' => e = .returned (.tuple #[.slice none 0 0, .bool false]) ∧ ∃ q, w' = w.drewN q := by
  have Hc := Lib.hid (cmpI_lt hlt)
  go_enter Tryd.func47, Tryd.ntmps47
  go_wp2_with fail
  refine (cmp_walk va vb la lb _ ha hb).mono ?_
  rintro e w' ⟨he, q, rfl⟩
  rw [Hc.out] at he
  subst he
  go_wp2
  go_ret2
  exact ⟨rfl, q, rfl⟩

/-- The loop of Sub: la - lb with a borrow. -/
def SubInv (e : TypeId) (g k br : Nat) (l lb : List Nat) (w wr : World) : Prop :=
  ∃ r, r.length = k ∧ Num.Lim r ∧ Num.val r + Num.val (lb.take k) = Num.val (l.take k) + Num.K ^ k * br ∧ Wr e g 0 l r w wr
theorem SubInv.start {e : TypeId} {g : Nat} {l lb : List Nat} {w : World} (h : Own e w g l) : SubInv e g 0 0 l lb w w := ⟨[], rfl, Num.Lim.nil, by simp [Num.val], Wr.start h⟩
section
variable {e : TypeId} {g k br : Nat} {l lb : List Nat} {w wr : World}
theorem SubInv.cell (h : SubInv e g k br l lb w wr) {x : Nat} (hx : l[k]? = some x) : wr.cell? ⟨g, k, none⟩ = some (.int .u32 (x : Int)) := by
  obtain ⟨r, hk, _, _, hw⟩ := h
  have := hw.cell hk (x := x) (by rw [Nat.zero_add]; exact hx)
  rwa [Nat.zero_add] at this
theorem SubInv.frozen (h : SubInv e g k br l lb w wr) (i : Nat) : wr.frozen? ⟨g, i, none⟩ = false := by
  obtain ⟨r, hk, _, _, hw⟩ := h
  exact hw.1.frozen i
theorem SubInv.other (h : SubInv e g k br l lb w wr) {g' o : Nat} (hne : g' ≠ g) {u : Value} (hc : w.cell? ⟨g', o, none⟩ = some u) : wr.cell? ⟨g', o, none⟩ = some u := by
  obtain ⟨r, hk, _, _, hw⟩ := h
  exact only_cell hw.2 hne hc
theorem sub_num (R B L P K br x y d br' : Nat) (hv : R + B = L + P * br) (hd : d + br + y = x + K * br') : R + P * d + (B + P * y) = L + P * x + P * K * br' := by
  have := congrArg (P * ·) hd
  simp only [Nat.mul_add, ← Nat.mul_assoc] at this
  omega
theorem SubInv.step (h : SubInv e g k br l lb w wr) {x : Nat} (hx : l[k]? = some x) (y : Nat) (hy : Num.val (lb.take (k + 1)) = Num.val (lb.take k) + Num.K ^ k * y) (d br' : Nat) (hd : d + br + y = x + Num.K * br') (hdK : d < Num.K) (z : Int) (hz : z = (d : Int)) :
    SubInv e g (k + 1) br' l lb w (wr.setCell ⟨g, k, none⟩ (.int .u32 z)) := by
  obtain ⟨r, hk, hr, hv, hw⟩ := h
  have hlt := (List.getElem?_eq_some_iff.1 hx).1
  have hw' := hw.step hk (by omega) d z hz
  rw [Nat.zero_add] at hw'
  refine ⟨r ++ [d], by simp [hk], hr.append (Num.Lim.cons hdK Num.Lim.nil), ?_, hw'⟩
  rw [Num.val_snoc, hk, val_take_succ l k x hx, hy, Nat.pow_succ]
  exact sub_num _ _ _ _ _ _ _ _ _ _ hv hd
end

theorem sub_word (x br y : Nat) (hx : x < 4294967296) (hb : br ≤ 1) (hy : y < 4294967296) :
    ∃ d br' : Nat, br' ≤ 1 ∧ IntKind.u64.wrap (IntKind.u64.wrap ((x : Int) - br) - y) / 9223372036854775808 = (br' : Int) ∧ IntKind.u64.wrap (IntKind.u64.wrap ((x : Int) - br) - y) % 4294967296 = (d : Int) ∧ d + br + y = x + Num.K * br' ∧ d < Num.K := by
  simp only [IntKind.wrap_u64, Num.K_eq]
  rcases Nat.lt_or_ge x (br + y) with h | h
  · exact ⟨x + 4294967296 - br - y, 1, by omega, by omega, by omega, by omega, by omega⟩
  · exact ⟨x - br - y, 0, by omega, by omega, by omega, by omega, by omega⟩
theorem sub_word0 (x br : Nat) (hx : x < 4294967296) (hb : br ≤ 1) :
    ∃ d br' : Nat, br' ≤ 1 ∧ IntKind.u64.wrap ((x : Int) - br) / 9223372036854775808 = (br' : Int) ∧ IntKind.u64.wrap ((x : Int) - br) % 4294967296 = (d : Int) ∧ d + br + 0 = x + Num.K * br' ∧ d < Num.K := by
  simp only [IntKind.wrap_u64, Num.K_eq]
  rcases Nat.lt_or_ge x br with h | h
  · exact ⟨x + 4294967296 - br, 1, by omega, by omega, by omega, by omega, by omega⟩
  · exact ⟨x - br, 0, by omega, by omega, by omega, by omega, by omega⟩
theorem int_u64 {a b : Int} (h : a = b) : Value.int .u64 a = .int .u64 b := by rw [h]
theorem no_borrow (P A B r br : Nat) (h : r + B = A + P * br) (hAB : B ≤ A) (hr : r < P) : r = A - B := by
  rcases Nat.lt_or_ge br 1 with h1 | h1
  · obtain rfl : br = 0 := by omega
    omega
  · have := Nat.mul_le_mul_left P h1
    omega
theorem SubInv.done {e : TypeId} {g n br : Nat} {l lb : List Nat} {w wr : World} (h : SubInv e g n br l lb w wr) (hn : l.length = n) (hle : Num.val lb ≤ Num.val l) :
    ∃ r, r.length = n ∧ Num.Lim r ∧ Num.val r = Num.val l - Num.val (lb.take n) ∧ Own e wr g r ∧ w.grownBy wr (some g) := by
  obtain ⟨r, hr, hL, hv, ho, hg⟩ := h
  rw [List.take_of_length_le (l := l) (by omega)] at hv
  have hle2 : Num.val (lb.take n) ≤ Num.val lb := by
    rcases Nat.lt_or_ge n lb.length with h | h
    · rw [Num.val_split lb n (by omega)]; omega
    · rw [List.take_of_length_le h]; exact Nat.le_refl _
  have hrl := Num.val_lt r hL
  rw [hr] at hrl
  exact ⟨r, hr, hL, no_borrow _ _ _ _ _ hv (by omega) hrl, by rw [mid_whole _ _ (by omega)] at ho; exact ho, hg⟩
theorem val_take_small (lb : List Nat) (n : Nat) (h : Num.val lb < Num.K ^ n) : Num.val (lb.take n) = Num.val lb := by
  rcases Nat.lt_or_ge n lb.length with hl | hl
  · have e := Num.val_split lb n (by omega)
    have h0 : Num.val (lb.drop n) = 0 := by
      rcases Nat.eq_zero_or_pos (Num.val (lb.drop n)) with h0 | h0
      · exact h0
      · have := Nat.mul_le_mul_left (Num.K ^ n) h0
        omega
    rw [h0] at e
    omega
  · rw [List.take_of_length_le hl]

set_option maxHeartbeats 2000000 in
theorem sub_ge (va vb : Value) (la lb : List Nat) (w : World) (ha : Rd w (fun _ => True) va la) (hb : Rd w (fun _ => True) vb lb) (hla : la.length ≤ 10000000) (hge : Num.val lb ≤ Num.val la) :
    Calls Tryd.prog 47 #[va, vb] w fun e w' => ∃ v, e = .returned (.tuple #[v, .bool true]) ∧ Res w w' v (Num.val la - Num.val lb) := by
  have Hge := Lib.hid hge
  have Hc : Hid (cmpI (Num.val la) (Num.val lb) = 0 ∨ cmpI (Num.val la) (Num.val lb) = 1) := by
    rcases Nat.lt_or_ge (Num.val lb) (Num.val la) with h | h
    · exact .inr (cmpI_gt h)
    · exact .inl (cmpI_eq (by omega))
  have ha0 := ha
  have hb0 := hb
  obtain ⟨A, n, c, rfl, Hn, hnc, hc, HLa, hA⟩ := ha.open_
  obtain ⟨B, m, d, rfl, Hm, hmd, hd, HLb, hB⟩ := hb.open_
  have hn : n ≤ 10000000 := by have := Hn.out; omega
  clear hla ha hb hge
  obtain ⟨ci, hci⟩ : ∃ ci, ci = cmpI (Num.val la) (Num.val lb) := ⟨_, rfl⟩
  have hci0 : 0 ≤ ci := by rcases Hc.out with h | h <;> rw [hci, h] <;> omega
  have Hci := Lib.hid hci
  clear hci
  go_enter Tryd.func47, Tryd.ntmps47
  go_wp2_with fail
  refine (cmp_walk _ _ la lb _ ha0 hb0).mono ?_
  rintro e w' ⟨he, q, rfl⟩
  rw [← Hci.out] at he
  subst he
  clear ha0 hb0
  go_wp2_with fail
  refine (norm_walk _ A n c la _ Hn.out hnc hc (by omega) (hA.drewN q)).mono ?_
  rintro e w1 ⟨v, k1, hk1, rfl, ⟨g, rfl, hg, hown, hb1⟩, hza, hna⟩
  have Lk : Hid ((la.take k1).length = k1) := by show _ = _; have := Hn.out; rw [List.length_take]; omega
  rw [Lk.out]
  have HLa1 : Hid (Num.Lim (la.take k1)) := HLa.out.take k1
  have Hva := Lib.hid (hza.val (by have := Hn.out; omega))
  obtain ⟨la1, hla1⟩ : ∃ l, l = la.take k1 := ⟨_, rfl⟩
  rw [← hla1] at Lk HLa1 Hva hown
  clear hla1 hza hna
  have hB1 : Cel w1 (· ≠ g) B lb := ((hB.drewN q).below' hb1).keep (S' := fun _ => True) (fun _ _ => trivial) (fun _ _ _ => rfl) |> fun h => ((hB.drewN q).old.keep (fun i hi => by have := hi.2; intro e; rw [e] at this; exact absurd this (by omega)) (fun i o hi => hb1.cell (p := ⟨i, o, none⟩) hi.2))
  go_wp2
  go_loopw [7, 18] (fun cy i wr => ∃ k : Nat, k ≤ k1 ∧ i = .int .i64 k ∧ ∃ br : Nat, br ≤ 1 ∧ cy = .int .u64 br ∧ SubInv 46 g k br la1 lb w1 wr) (fun _ i _ => k1 - (intOf i).toNat)
  case atStart => exact ⟨0, Nat.zero_le _, rfl, 0, by omega, rfl, SubInv.start hown⟩
  case round =>
    obtain ⟨k, hk, rfl, br, hbr, rfl, hinv⟩ := hrel
    by_cases hlt : k < k1
    · obtain ⟨x, hx⟩ : ∃ x, la1[k]? = some x := ⟨_, List.getElem?_eq_getElem (by have := Lk.out; omega)⟩
      have hxb : x < 4294967296 := HLa1.out.at hx
      have hcell := hinv.cell hx
      have hfr := hinv.frozen k
      have Hx := Lib.hid hx
      clear hx
      by_cases hkm : k < m
      · obtain ⟨g', off', rfl, hg', hcb⟩ := hB1 (by have := Hm.out; omega)
        obtain ⟨y, hy⟩ : ∃ y, lb[k]? = some y := ⟨_, List.getElem?_eq_getElem (by have := Hm.out; omega)⟩
        have hyb : y < 4294967296 := HLb.out.at hy
        have hcelly := hinv.other hg' (hcb _ _ hy)
        have Hy := Lib.hid hy
        clear hy hcb
        have HS := Lib.hid (sub_word x br y hxb hbr hyb)
        go_wp2
        go_roundw
        case rel =>
          obtain ⟨d, br', h1, h2, h3, h4, h5⟩ := HS.out
          exact ⟨k + 1, by omega, by go_num, br', h1, int_u64 h2, hinv.step Hx.out y (val_take_succ _ _ _ Hy.out) d br' h4 h5 _ h3⟩
        case measure => simp [intOf]; omega
      · have hmk : m ≤ k := by omega
        clear hkm
        have HS := Lib.hid (sub_word0 x br hxb hbr)
        go_wp2
        go_roundw
        case rel =>
          obtain ⟨d, br', h1, h2, h3, h4, h5⟩ := HS.out
          exact ⟨k + 1, by omega, by go_num, br', h1, int_u64 h2, hinv.step Hx.out 0 (take_past _ _ (by have := Hm.out; omega)) d br' h4 h5 _ h3⟩
        case measure => simp [intOf]; omega
    · obtain ⟨r, hr, hLr, hvr, hown3, hgr3⟩ := hinv.done (by have := Lk.out; omega) (by rw [Hva.out]; exact Hge.out)
      have Hr := Lib.hid hr
      have Hvr := Lib.hid hvr
      clear hr hvr hinv
      have hkk : k = k1 := by omega
      have Hkk := Lib.hid hkk
      clear hkk
      go_wp2_with fail
      refine (trim_walk (fun _ => True) (some ⟨g, 0, none⟩) k1 k1 r wr (by have := Hr.out; have := Hkk.out; omega) (Nat.le_refl _) (by omega) hown3.celTop).mono ?_
      rintro e w4 ⟨⟨j, hj, rfl, hz, hnr⟩, rfl⟩
      go_wp2
      go_ret2
      have hjr : k1 = r.length := by have := Hr.out; have := Hkk.out; omega
      refine ⟨_, rfl, r.take j, hown3.rdTake _ trivial hLr j k1 (by omega) hj (by omega), hnr, ?_, ?_⟩
      · rw [hz.val (by omega), Hvr.out, val_take_small, Hva.out]
        have h1 := Num.val_lt la1 HLa1.out
        have h2 := Hge.out
        have h3 := Hva.out
        rw [Lk.out, ← Hkk.out] at h1
        omega
      · have hbq : Below w.heap.size w w1 := (below_drewN (Below.refl _ w) q).trans hb1
        exact hbq.trans ⟨hgr3.os, hgr3.tape, hgr3.output, hgr3.size, fun i hi => hgr3.block i (Nat.lt_of_lt_of_le hi hbq.size) (by intro e; injection e with e; have : w.heap.size ≤ g := hg; omega)⟩
end Go.Proofs.YthcoemkbdllcfaaDoor
