import Derived.Test.YtohlilgnognmgaaGreatDoorJNum
import Derived.Test.YtohlilgnognmgaaGreatDoorJDiv
import Derived.Deep.LoopGhost
import Derived.Lib.Strings
import Derived.Lib.ItoaNum
import Derived.Lib.ItoaMem
import Derived.Lib.Builder
import Derived.Lib.AppendStr
import Derived.Laws.Externs
import Derived.Lib.AppendIntMem
import Derived.Lib.IndexBytes
/-
  The walk of natural.Add: the sum, in normal form, in memory of its own.
-/
namespace Go.Proofs.YtohlilgnognmgaaGreatDoor
open Go.RowKit

set_option maxHeartbeats 1000000 in
theorem add_walk (va vb : Value) (la lb : List Nat) (w : World) (ha : Rd w (fun _ => True) va la) (hb : Rd w (fun _ => True) vb lb) (hla : la.length ≤ 10000000) (hlb : lb.length ≤ 10000000) :
    Calls Tryz.prog 55 #[va, vb] w fun e w' => ∃ v, e = .returned v ∧ Res w w' v (Num.val la + Num.val lb) := by
  obtain ⟨i0, hi, hz0, hz1, hz2⟩ := info_parts info_u32
  obtain ⟨A, n, c, rfl, Hn, hnc, hc, HLa, hA⟩ := ha.open_
  obtain ⟨B, m, d, rfl, Hm, hmd, hd, HLb, hB⟩ := hb.open_
  have hn : n ≤ 10000000 := by have := Hn.out; omega
  have hm : m ≤ 10000000 := by have := Hm.out; omega
  clear hla hlb ha hb
  go_enter Tryz.func55, Tryz.ntmps55
  go_wp2_with fail
  refine (trim_walk _ A n c la _ Hn.out.symm hnc hc hA).mono ?_
  rintro e w' ⟨⟨k1, hk1, rfl, hza, hna⟩, rfl⟩
  go_wp2_with fail
  refine (trim_walk _ B m d lb _ Hm.out.symm hmd hd hB).mono ?_
  rintro e w' ⟨⟨k2, hk2, rfl, hzb, hnb⟩, rfl⟩
  by_cases hlt : k1 < k2
  · go_wp2_with (first
      | (at_make; refine wpList_make_u32 _ rfl (.tmp 19) (.tmp 19) 23 rfl 45 i0 Tryz.underlying23 hi hz0 hz1 hz2 .i64 .i64 _ _ (k2 + 1) rfl rfl (by omega) (by omega) (by omega) ?_; intro g w1 hg1 hown1 hb1 hs1; have Hg := Lib.hid hg1; clear hg1)
      | (with_reducible refine wpList_copy_u32 rfl (.tmp 21) (.tmp 22) 23 23 rfl 45 Tryz.underlying23 size_u32 g (k2 + 1) (k2 + 1) k2 d B rfl rfl 45 _ (lb.take k2) (fun _ => True) hown1 (by simp) (by have := Hm.out; rw [List.length_take]; omega) (by omega) ((hB.take k2).below' hb1) ?_; intro w2 hown2 hb2)
      | (go_at_call 86; refine (addInto_walk A g 0 (k2 + 1) k1 (k2 + 1) c _ (la.take k1) w2 hown2 (by have := Hm.out; simp; omega) (by omega) (((hA.take k1).old.keep (S' := (· ≠ g)) (fun i hi => by have := Hg.out; have := hi.2; omega) (fun i o hi => (hb2.cell (p := ⟨i, o, none⟩) (by have := Hg.out; have := hi.2; exact (by omega : i < g))).trans (hb1.cell (p := ⟨i, o, none⟩) hi.2)))) (by have := Hn.out; rw [List.length_take]; omega) (by omega) (by omega) ((HLb.out.take _).append ((Num.Lim.replicate _).drop _)) (HLa.out.take _)).mono ?_; rintro e w3 ⟨rfl, hadd⟩)
      | (go_at_call 85; obtain ⟨r, hr, hLr, hvr, hown3, hgr3⟩ := hadd.fin (by have := Hm.out; rw [List.length_take]; omega) (by have := Hn.out; rw [List.length_take]; omega) (HLb.out.take _) (HLa.out.take _); have Hr := Lib.hid hr; have Hvr := Lib.hid hvr; clear hr hvr hadd; refine (trim_walk (fun _ => True) (some ⟨g, 0, none⟩) (k2 + 1) (k2 + 1) r w3 Hr.out.symm (Nat.le_refl _) (by omega) hown3.celTop).mono ?_; rintro e w4 ⟨⟨k, hk, rfl, hz, hnr⟩, rfl⟩))
    go_ret
    refine ⟨_, rfl, r.take k, ?_, hnr, ?_, ?_⟩
    · exact hown3.rdTake _ trivial hLr k (k2 + 1) (by have := Hr.out; omega) hk (by omega)
    · rw [hz.val (by have := Hr.out; omega), Hvr.out, hzb.val (by have := Hm.out; omega), hza.val (by have := Hn.out; omega)]; omega
    · exact (hb1.trans (hb2.mono (by have := Hg.out; omega))).trans ⟨hgr3.os, hgr3.tape, hgr3.output, hgr3.size, fun i hi => hgr3.block i (by have := hb1.size; have := hb2.size; omega) (by have := Hg.out; intro e; injection e with e; omega)⟩
  · go_wp2_with (first
      | (at_make; refine wpList_make_u32 _ rfl (.tmp 19) (.tmp 19) 23 rfl 45 i0 Tryz.underlying23 hi hz0 hz1 hz2 .i64 .i64 _ _ (k1 + 1) rfl rfl (by omega) (by omega) (by omega) ?_; intro g w1 hg1 hown1 hb1 hs1; have Hg := Lib.hid hg1; clear hg1)
      | (with_reducible refine wpList_copy_u32 rfl (.tmp 21) (.tmp 22) 23 23 rfl 45 Tryz.underlying23 size_u32 g (k1 + 1) (k1 + 1) k1 c A rfl rfl 45 _ (la.take k1) (fun _ => True) hown1 (by simp) (by have := Hn.out; rw [List.length_take]; omega) (by omega) ((hA.take k1).below' hb1) ?_; intro w2 hown2 hb2)
      | (go_at_call 86; refine (addInto_walk B g 0 (k1 + 1) k2 (k1 + 1) d _ (lb.take k2) w2 hown2 (by have := Hn.out; simp; omega) (by omega) (((hB.take k2).old.keep (S' := (· ≠ g)) (fun i hi => by have := Hg.out; have := hi.2; omega) (fun i o hi => (hb2.cell (p := ⟨i, o, none⟩) (by have := Hg.out; have := hi.2; exact (by omega : i < g))).trans (hb1.cell (p := ⟨i, o, none⟩) hi.2)))) (by have := Hm.out; rw [List.length_take]; omega) (by omega) (by omega) ((HLa.out.take _).append ((Num.Lim.replicate _).drop _)) (HLb.out.take _)).mono ?_; rintro e w3 ⟨rfl, hadd⟩)
      | (go_at_call 85; obtain ⟨r, hr, hLr, hvr, hown3, hgr3⟩ := hadd.fin (by have := Hn.out; rw [List.length_take]; omega) (by have := Hm.out; rw [List.length_take]; omega) (HLa.out.take _) (HLb.out.take _); have Hr := Lib.hid hr; have Hvr := Lib.hid hvr; clear hr hvr hadd; refine (trim_walk (fun _ => True) (some ⟨g, 0, none⟩) (k1 + 1) (k1 + 1) r w3 Hr.out.symm (Nat.le_refl _) (by omega) hown3.celTop).mono ?_; rintro e w4 ⟨⟨k, hk, rfl, hz, hnr⟩, rfl⟩))
    go_ret
    refine ⟨_, rfl, r.take k, ?_, hnr, ?_, ?_⟩
    · exact hown3.rdTake _ trivial hLr k (k1 + 1) (by have := Hr.out; omega) hk (by omega)
    · rw [hz.val (by have := Hr.out; omega), Hvr.out, hza.val (by have := Hn.out; omega), hzb.val (by have := Hm.out; omega)]
    · exact (hb1.trans (hb2.mono (by have := Hg.out; omega))).trans ⟨hgr3.os, hgr3.tape, hgr3.output, hgr3.size, fun i hi => hgr3.block i (by have := hb1.size; have := hb2.size; omega) (by have := Hg.out; intro e; injection e with e; omega)⟩
end Go.Proofs.YtohlilgnognmgaaGreatDoor
/-
  Words that the walks of numbers share: literals in memory, what a comparison and a difference leave, a law's end.
-/
namespace Go.Proofs.YtohlilgnognmgaaGreatDoor
open Go.RowKit

theorem Rd.len {w : World} {S : Nat → Prop} {v : Value} {l : List Nat} (h : Rd w S v l) : ∃ A c, v = .slice A l.length c := by
  obtain ⟨A, c, e, _⟩ := h
  exact ⟨A, c, e⟩
theorem Rd.lim {w : World} {S : Nat → Prop} {v : Value} {l : List Nat} (h : Rd w S v l) : Num.Lim l := by
  obtain ⟨_, _, _, _, _, h, _⟩ := h
  exact h
theorem Rd.slice {w : World} {S : Nat → Prop} {A : Option Addr} {n c : Nat} {l : List Nat} (hn : l.length = n) (hnc : n ≤ c) (hc : c ≤ 9223372036854775807) (hL : Num.Lim l) (hA : Cel w S A l) : Rd w S (.slice A n c) l :=
  ⟨A, c, by rw [hn], by omega, hc, hL, hA⟩
/-- A call returns a number in normal form, of value m. -/
def NumEnd (m : Nat) (w : World) (e : Ending) (w' : World) : Prop := ∃ v, e = .returned v ∧ Res w w' v m
theorem Own.cell0 {t : TypeId} {w : World} {g : Nat} {l : List Nat} (h : Own t w g l) (j x : Nat) (hx : l[j]? = some x) : w.cell? ⟨g, j, none⟩ = some (.int .u32 (x : Int)) := by
  have := h.cel j x hx
  rwa [Nat.zero_add] at this
theorem Rd.lit (W : World) (l : List Nat) (cs : Array Value) (g n : Nat) (hcs : cs = (l.map Lv).toArray) (hn : n = l.length) (hg : g = W.heap.size) (hL : Num.Lim l) (hb : n ≤ 1000) : Rd (W.alloc (.cells cs 45)) (fun _ => True) (.slice (some ⟨g, 0, none⟩) n n) l := by
  subst hcs; subst hg; subst hn
  exact (Own.new W 45 l).rd _ trivial hL (by omega)
theorem below_alloc (W : World) (o : Obj) : Below W.heap.size W (W.alloc o) := (Below.refl _ _).alloc (Nat.le_refl _) _
theorem lim1 (a : Nat) (ha : a < 4294967296) : Num.Lim [a] := Num.Lim.cons ha Num.Lim.nil
theorem lim2 (a b : Nat) (ha : a < 4294967296) (hb : b < 4294967296) : Num.Lim [a, b] := Num.Lim.cons ha (lim1 b hb)
theorem b_alloc {w w' : World} {o : Obj} (h : Below (w.alloc o).heap.size (w.alloc o) w') : Below w.heap.size w w' := (below_alloc w o).trans (h.mono (below_alloc w o).size)
theorem below_q {w w' : World} (h : ∃ q, w' = w.drewN q) : Below w.heap.size w w' := by
  obtain ⟨q, rfl⟩ := h
  exact below_drewN (Below.refl _ _) q
theorem sub_lt_b (va vb : Value) (la lb : List Nat) (w : World) (ha : Rd w (fun _ => True) va la) (hb : Rd w (fun _ => True) vb lb) (hlt : Num.val la < Num.val lb) :
    Calls Tryz.prog 82 #[va, vb] w fun e w' => e = .returned (.tuple #[.slice none 0 0, .bool false]) ∧ Below w.heap.size w w' := (sub_lt va vb la lb w ha hb hlt).mono fun _ _ ⟨h, hq⟩ => ⟨h, below_q hq⟩
theorem cmp_b (va vb : Value) (la lb : List Nat) (w : World) (ha : Rd w (fun _ => True) va la) (hb : Rd w (fun _ => True) vb lb) (c : Int) (hc : cmpI (Num.val la) (Num.val lb) = c) :
    Calls Tryz.prog 74 #[va, vb] w fun e w' => e = .returned (.int .i64 c) ∧ Below w.heap.size w w' := (cmp_walk va vb la lb w ha hb).mono fun _ _ ⟨h, hq⟩ => ⟨by rw [h, hc], below_q hq⟩
theorem nrm1 (a : Nat) (h : a ≠ 0) : Num.Nrm [a] := by simp [Num.Nrm, h]
theorem nrm2 (a b : Nat) (h : b ≠ 0) : Num.Nrm [a, b] := by simp [Num.Nrm, h]
/-- A law's call returns true and writes nothing that was there. -/
def LawEnd (w : World) (e : Ending) (w' : World) : Prop := e = .returned (.bool true) ∧ Below w.heap.size w w'
theorem Rd.addr {w : World} {S : Nat → Prop} {A : Option Addr} {n c : Nat} {l : List Nat} (h : Rd w S (.slice A n c) l) : l.length = n := by
  obtain ⟨A', c', e, _⟩ := h
  injection e with _ e
  exact e.symm
theorem len_of {l : List Nat} {k : Nat} {a : Nat} (hn : Num.Nrm l) (hv : Num.val l = a) (h : a < Num.K ^ k) : l.length ≤ k := hn.len_le (by rw [hv]; exact h)
theorem sq_lt {a k : Nat} (h : a < Num.K ^ k) : a * a < Num.K ^ (k + k) := by
  rw [Nat.pow_add]
  have := Nat.mul_le_mul (Nat.le_of_lt h) (Nat.le_of_lt h)
  have h2 := Nat.mul_lt_mul_of_lt_of_le h (Nat.le_of_lt h) (by omega)
  exact h2
end Go.Proofs.YtohlilgnognmgaaGreatDoor
/-
  The contracts of natural's functions, said of numbers: 'Nm w v m k': the value v reads in the world w as the number m, in at most k limbs; 'Nz': in normal form besides.
-/
namespace Go.Proofs.YtohlilgnognmgaaGreatDoor
open Go.RowKit

def Nm (w : World) (v : Value) (m k : Nat) : Prop := ∃ l, Rd w (fun _ => True) v l ∧ Num.val l = m ∧ l.length ≤ k
def Nz (w : World) (v : Value) (m k : Nat) : Prop := ∃ l, Rd w (fun _ => True) v l ∧ Num.Nrm l ∧ Num.val l = m ∧ l.length ≤ k
theorem Nz.nm {w : World} {v : Value} {m k : Nat} (h : Nz w v m k) : Nm w v m k := by
  obtain ⟨l, h1, _, h2, h3⟩ := h
  exact ⟨l, h1, h2, h3⟩
theorem Nm.below {w w' : World} {v : Value} {m k : Nat} (h : Nm w v m k) (hb : Below w.heap.size w w') : Nm w' v m k := by
  obtain ⟨l, h1, h2, h3⟩ := h
  exact ⟨l, h1.below hb, h2, h3⟩
theorem Nz.below {w w' : World} {v : Value} {m k : Nat} (h : Nz w v m k) (hb : Below w.heap.size w w') : Nz w' v m k := by
  obtain ⟨l, h1, h0, h2, h3⟩ := h
  exact ⟨l, h1.below hb, h0, h2, h3⟩
theorem Nm.lt {w : World} {v : Value} {m k : Nat} (h : Nm w v m k) : m < Num.K ^ k := by
  obtain ⟨l, h1, rfl, h3⟩ := h
  exact Nat.lt_of_lt_of_le (Num.val_lt l h1.lim) (Nat.pow_le_pow_right Num.K_pos h3)
theorem Nm.nil (w : World) : Nm w (.slice none 0 0) 0 0 := ⟨[], Rd.nil _ _, rfl, Nat.le_refl _⟩
theorem Nm.one (W : World) (g : Nat) (hg : g = W.heap.size) : Nm (W.alloc (.cells #[.int .u32 1] 45)) (.slice (some ⟨g, 0, none⟩) 1 1) 1 1 :=
  ⟨[1], Rd.lit W [1] _ g 1 rfl rfl hg (lim1 _ (by omega)) (by omega), by simp [Num.val], Nat.le_refl _⟩
theorem Res.nz {w w' : World} {v : Value} {m : Nat} (h : Res w w' v m) (k : Nat) (hk : m < Num.K ^ k) : Nz w' v m k ∧ Below w.heap.size w w' := by
  obtain ⟨l, h1, h2, h3, h4⟩ := h
  exact ⟨⟨l, h1, h2, h3, h2.len_le (by rw [h3]; exact hk)⟩, h4⟩
theorem Nz.empty {w : World} {v : Value} {k : Nat} (h : Nz w v 0 k) : ∃ A c, v = .slice A 0 c := by
  obtain ⟨l, h1, h0, h2, h3⟩ := h
  obtain ⟨A, c, e⟩ := h1.len
  rw [h0.eq_nil h2] at e
  exact ⟨A, c, e⟩
/-- A call returns the number m, in normal form and at most k limbs; what was there is as it was. -/
def NEnd (m k : Nat) (w : World) (e : Ending) (w' : World) : Prop := ∃ v, e = .returned v ∧ Nz w' v m k ∧ Below w.heap.size w w'
theorem add_lt {a b k j : Nat} (ha : a < Num.K ^ k) (hb : b < Num.K ^ j) : a + b < Num.K ^ (max k j + 1) := by
  have h1 : Num.K ^ k ≤ Num.K ^ max k j := Nat.pow_le_pow_right Num.K_pos (Nat.le_max_left _ _)
  have h2 : Num.K ^ j ≤ Num.K ^ max k j := Nat.pow_le_pow_right Num.K_pos (Nat.le_max_right _ _)
  have h3 := Nat.mul_le_mul_left (Num.K ^ max k j) Num.K_two
  rw [Nat.pow_succ]
  omega
theorem mul_lt' {a b k j : Nat} (ha : a < Num.K ^ k) (hb : b < Num.K ^ j) : a * b < Num.K ^ (k + j) := by
  rw [Nat.pow_add]
  exact Nat.mul_lt_mul_of_lt_of_le ha (Nat.le_of_lt hb) (Num.pow_pos' j)
theorem add_n {w : World} {va vb : Value} {a b k j : Nat} (ha : Nm w va a k) (hb : Nm w vb b j) (hk : k ≤ 1000) (hj : j ≤ 1000) : Calls Tryz.prog 55 #[va, vb] w (NEnd (a + b) (max k j + 1) w) := by
  have h1 := ha.lt
  have h2 := hb.lt
  obtain ⟨la, ra, rfl, na⟩ := ha
  obtain ⟨lb, rb, rfl, nb⟩ := hb
  exact (add_walk _ _ la lb w ra rb (by omega) (by omega)).mono fun e w' ⟨v, he, hr⟩ => ⟨v, he, hr.nz _ (add_lt h1 h2)⟩
theorem mul_n {w : World} {va vb : Value} {a b k j : Nat} (ha : Nm w va a k) (hb : Nm w vb b j) (hk : k ≤ 1000) (hj : j ≤ 1000) : Calls Tryz.prog 79 #[va, vb] w (NEnd (a * b) (k + j) w) := by
  have h1 := ha.lt
  have h2 := hb.lt
  obtain ⟨la, ra, rfl, na⟩ := ha
  obtain ⟨lb, rb, rfl, nb⟩ := hb
  exact (mul_walk _ _ la lb w ra rb (by omega) (by omega)).mono fun e w' ⟨v, he, hr⟩ => ⟨v, he, hr.nz _ (mul_lt' h1 h2)⟩
theorem cmp_n {w : World} {va vb : Value} {a b k j : Nat} (ha : Nm w va a k) (hb : Nm w vb b j) (c : Int) (hc : cmpI a b = c) :
    Calls Tryz.prog 74 #[va, vb] w fun e w' => e = .returned (.int .i64 c) ∧ Below w.heap.size w w' := by
  obtain ⟨la, ra, rfl, na⟩ := ha
  obtain ⟨lb, rb, rfl, nb⟩ := hb
  exact cmp_b _ _ la lb w ra rb c hc
theorem div_n0 {w : World} {va vb : Value} {a b k j : Nat} (ha : Nm w va a k) (hb : Nm w vb b j) (h0 : b = 0) :
    Calls Tryz.prog 56 #[va, vb] w fun e w' => e = .returned (.tuple #[.slice none 0 0, .slice none 0 0, .bool false]) ∧ w = w' := by
  obtain ⟨la, ra, rfl, na⟩ := ha
  obtain ⟨lb, rb, rfl, nb⟩ := hb
  exact divmod_zero _ _ la lb w ra rb h0
def DNEnd (q r k j : Nat) (w : World) (e : Ending) (w' : World) : Prop := ∃ v1 v2, e = .returned (.tuple #[v1, v2, .bool true]) ∧ Nz w' v1 q k ∧ Nz w' v2 r j ∧ Below w.heap.size w w'
theorem div_n {w : World} {va vb : Value} {a b k j : Nat} (ha : Nm w va a k) (hb : Nm w vb b j) (hk : k ≤ 1000) (hb0 : 0 < b) : Calls Tryz.prog 56 #[va, vb] w (DNEnd (a / b) (a % b) k j w) := by
  have h1 := ha.lt
  have h2 := hb.lt
  obtain ⟨la, ra, rfl, na⟩ := ha
  obtain ⟨lb, rb, rfl, nb⟩ := hb
  refine (divmod_pos _ _ la lb w ra rb (by omega) hb0).mono fun e w' ⟨v1, v2, he, hr1, hr2⟩ => ?_
  have e1 := hr1.nz k (Nat.lt_of_le_of_lt (Nat.div_le_self _ _) h1)
  have e2 := hr2.nz j (Nat.lt_trans (Nat.mod_lt _ hb0) h2)
  exact ⟨v1, v2, he, e1.1, e2.1, e1.2⟩
def SNEnd (m k : Nat) (w : World) (e : Ending) (w' : World) : Prop := ∃ v, e = .returned (.tuple #[v, .bool true]) ∧ Nz w' v m k ∧ Below w.heap.size w w'
theorem sub_n {w : World} {va vb : Value} {a b k j : Nat} (ha : Nm w va a k) (hb : Nm w vb b j) (hk : k ≤ 1000) (hge : b ≤ a) : Calls Tryz.prog 82 #[va, vb] w (SNEnd (a - b) k w) := by
  have h1 := ha.lt
  obtain ⟨la, ra, rfl, na⟩ := ha
  obtain ⟨lb, rb, rfl, nb⟩ := hb
  exact (sub_ge _ _ la lb w ra rb (by omega) hge).mono fun e w' ⟨v, he, hr⟩ => ⟨v, he, hr.nz _ (Nat.lt_of_le_of_lt (Nat.sub_le _ _) h1)⟩
/-- A slice that came in, its length by name. -/
theorem Rd.named {w : World} {v : Value} {l : List Nat} (h : Rd w (fun _ => True) v l) : ∃ A n c, v = .slice A n c ∧ n ≤ 9223372036854775807 ∧ Nm w (.slice A n c) (Num.val l) n := by
  have h' := h
  obtain ⟨A, c, rfl, h1, h2, _⟩ := h
  exact ⟨A, l.length, c, rfl, by omega, l, h', rfl, Nat.le_refl _⟩
end Go.Proofs.YtohlilgnognmgaaGreatDoor
/-
  The walks of natural.word, gcdWords and Gcd.
-/
namespace Go.Proofs.YtohlilgnognmgaaGreatDoor
open Go.RowKit

theorem or_high (x y : Nat) (hx : x < 4294967296) (hy : y < 4294967296) : bits .or .u64 (x : Int) ((y : Int) * 4294967296) = ((y * 4294967296 + x : Nat) : Int) := by
  have h := u64_or_nat x (y * 4294967296) (by omega) (by omega)
  rw [Nat.or_comm, nat_join 32 (y * 4294967296) x (by omega) (by omega)] at h
  rw [← h, Int.natCast_mul]
  rfl
theorem or_zero_ (x : Nat) (hx : x < 4294967296) : bits .or .u64 0 (x : Int) = (x : Int) := by
  have h := u64_or_nat 0 x (by omega) (by omega)
  simpa using h

def WordEnd (m : Nat) (w : World) (e : Ending) (w' : World) : Prop := e = .returned (.int .u64 (m : Int)) ∧ w = w'
set_option maxHeartbeats 1000000 in
theorem word_walk (A : Option Addr) (n c : Nat) (l : List Nat) (w : World) (hn : l.length = n) (hn2 : n ≤ 2) (hA : Cel w (fun _ => True) A l) (hL : Num.Lim l) :
    Calls Tryz.prog 103 #[.slice A n c] w (WordEnd (Num.val l) w) := by
  have Hn := Lib.hid hn
  have HL := Lib.hid hL
  clear hn hL
  go_enter Tryz.func103, Tryz.ntmps103
  go_wp2
  go_loop [3, 8] (fun x i => ∃ k : Nat, k ≤ n ∧ i = .int .i64 k ∧ ∃ m : Nat, x = .int .u64 m ∧ Hid (m = Num.val (l.take k))) (fun _ i => n - (intOf i).toNat)
  case atStart => exact ⟨0, Nat.zero_le _, rfl, 0, rfl, rfl⟩
  case round =>
    obtain ⟨k, hk, rfl, m, rfl, Hm⟩ := hrel
    by_cases hlt : k < n
    · obtain ⟨y, hy⟩ : ∃ y, l[k]? = some y := ⟨_, List.getElem?_eq_getElem (by have := Hn.out; omega)⟩
      have hyb : y < 4294967296 := HL.out.at hy
      obtain ⟨g, off, rfl, _, hc⟩ := hA (by have := Hn.out; omega)
      have hcy := hc _ _ hy
      have Hy := Lib.hid hy
      clear hc hy
      by_cases h0 : k = 0
      · subst h0
        have hor := or_zero_ y hyb
        have hm0 : m = 0 := Hm.out
        subst hm0
        rw [Nat.add_zero] at hcy
        go_wp2
        go_round
        case rel => exact ⟨1, by omega, rfl, y, rfl, by have := val_take_succ l 0 y Hy.out; show y = _; simpa [Num.val] using this.symm⟩
        case measure => simp [intOf] <;> omega
      · obtain rfl : k = 1 := by omega
        obtain ⟨x, hx⟩ : ∃ x, l[0]? = some x := ⟨_, List.getElem?_eq_getElem (by have := Hn.out; omega)⟩
        have hxb : x < 4294967296 := HL.out.at hx
        have hor := or_high x y hxb hyb
        have hv : m = x := by
          have := val_take_succ l 0 x hx
          rw [Hm.out]
          simpa [Num.val] using this
        subst hv
        clear h0
        have Hx := Lib.hid hx
        clear hx
        go_wp2
        go_round
        case rel => exact ⟨2, by omega, rfl, y * 4294967296 + m, int_u64 (by simp), by have := val_take_succ l 1 y Hy.out; show _ = _; rw [this, ← Hm.out, Nat.pow_one, Num.K_eq, Nat.mul_comm, Nat.add_comm]⟩
        case measure => simp [intOf] <;> omega
    · go_wp2
      go_ret
      have e : m = Num.val l := by rw [Hm.out, List.take_of_length_le (by have := Hn.out; omega)]
      rw [← e]
      exact ⟨rfl, rfl⟩

def GcdwEnd (a b : Nat) (w : World) (e : Ending) (w' : World) : Prop := ∃ g : Nat, e = .returned (.int .u64 (g : Int)) ∧ g = Nat.gcd a b ∧ g < 18446744073709551616 ∧ ∃ q, w' = w.drewN q
set_option maxHeartbeats 1000000 in
theorem gcdWords_walk (a b : Nat) (w : World) (ha : a < 18446744073709551616) (hb : b < 18446744073709551616) :
    Calls Tryz.prog 102 #[.int .u64 (a : Int), .int .u64 (b : Int)] w (GcdwEnd a b w) := by
  obtain ⟨G, hG⟩ : ∃ G, Nat.gcd a b = G := ⟨_, rfl⟩
  have HG := Lib.hid hG
  clear hG
  go_enter Tryz.func102, Tryz.ntmps102
  go_wp2
  go_loopw [0, 1] (fun x y wr => ∃ a' b' : Nat, x = .int .u64 a' ∧ y = .int .u64 b' ∧ a' < 18446744073709551616 ∧ b' < 18446744073709551616 ∧ Hid (Nat.gcd a' b' = G) ∧ ∃ q, wr = w.drewN q) (fun _ y _ => (intOf y).toNat)
  case atStart => exact ⟨a, b, rfl, rfl, ha, hb, HG.out, 0, rfl⟩
  case round =>
    obtain ⟨a', b', rfl, rfl, ha', hb', Hg, q, rfl⟩ := hrel
    by_cases h0 : b' = 0
    · subst h0
      go_wp2
      go_ret
      have h1 := Hg.out
      rw [Nat.gcd_zero_right] at h1
      exact ⟨a', rfl, by rw [h1, HG.out], ha', q, rfl⟩
    · have t0 : ((b' : Int) != 0) = true := by simp; omega
      have hpos : 1 ≤ b' := by omega
      have Hn : Hid (Nat.gcd b' (a' % b') = G) := by show _ = _; rw [Nat.gcd_comm, ← Nat.gcd_rec, Nat.gcd_comm]; exact Hg.out
      have hml : a' % b' < b' := Nat.mod_lt _ hpos
      clear h0
      go_wp2
      go_quiet (fail)
      go_wp2
      go_roundw
      case rel => exact ⟨b', a' % b', rfl, int_u64 (by simp), hb', by omega, Hn, by simp only [World.drewN_drewN]; exact ⟨_, rfl⟩⟩
      case measure =>
        simp only [intOf]
        have e : ((a' : Int) % (b' : Int)) = ((a' % b' : Nat) : Int) := by simp
        rw [e]
        omega

/-- What the loop of Gcd keeps. -/
def GcdInv (G : Nat) (w : World) (gk : Nat) (x y : Value) (wr : World) : Prop :=
  ∃ la lb, Rd wr (fun _ => True) x la ∧ Rd wr (fun _ => True) y lb ∧ Num.Nrm la ∧ Num.Nrm lb ∧ Nat.gcd (Num.val la) (Num.val lb) = G ∧ Num.val lb = gk ∧ la.length ≤ 10000000 ∧ lb.length ≤ 10000000 ∧ Below w.heap.size w wr

set_option maxHeartbeats 4000000 in
theorem gcd_walk (va vb : Value) (la lb : List Nat) (w : World) (ha : Rd w (fun _ => True) va la) (hb : Rd w (fun _ => True) vb lb) (hla : la.length ≤ 10000000) (hlb : lb.length ≤ 10000000) :
    Calls Tryz.prog 76 #[va, vb] w (NumEnd (Nat.gcd (Num.val la) (Num.val lb)) w) := by
  obtain ⟨G, hG⟩ : ∃ G, Nat.gcd (Num.val la) (Num.val lb) = G := ⟨_, rfl⟩
  rw [hG]
  have HG := Lib.hid hG
  clear hG
  obtain ⟨A, n, c, rfl, Hn, hnc, hc, HLa, hA⟩ := ha.open_
  obtain ⟨B, m, d, rfl, Hm, hmd, hd, HLb, hB⟩ := hb.open_
  have hn : n ≤ 10000000 := by have := Hn.out; omega
  have hm : m ≤ 10000000 := by have := Hm.out; omega
  clear ha hb hla hlb
  go_enter Tryz.func76, Tryz.ntmps76
  go_wp2_with fail
  refine (trim_walk _ A n c la _ Hn.out.symm hnc hc hA).mono ?_
  rintro e w' ⟨⟨k1, hk1, rfl, hza, hna⟩, rfl⟩
  go_wp2_with fail
  refine (trim_walk _ B m d lb _ Hm.out.symm hmd hd hB).mono ?_
  rintro e w' ⟨⟨k2, hk2, rfl, hzb, hnb⟩, rfl⟩
  have Hva := Lib.hid (hza.val (by have := Hn.out; omega))
  have Hvb := Lib.hid (hzb.val (by have := Hm.out; omega))
  have Hna := Lib.hid hna
  have Hnb := Lib.hid hnb
  clear hza hzb hna hnb
  go_wp2
  go_loopg [0, 1] (Num.val lb) (fun gk x y wr => GcdInv G w gk x y wr)
  case atStart =>
    refine ⟨la.take k1, lb.take k2, ?_, ?_, Hna.out, Hnb.out, ?_, Hvb.out, ?_, ?_, Below.refl _ _⟩
    · exact Rd.slice (by have := Hn.out; rw [List.length_take]; omega) (by omega) hc (HLa.out.take _) (hA.take _)
    · exact Rd.slice (by have := Hm.out; rw [List.length_take]; omega) (by omega) hd (HLb.out.take _) (hB.take _)
    · rw [Hva.out, Hvb.out]; exact HG.out
    · rw [List.length_take]; omega
    · rw [List.length_take]; omega
  case round =>
    clear hA hB
    obtain ⟨l1, l2, hr1, hr2, hn1, hn2, hg, hgk, hl1, hl2, hbl⟩ := hrel
    have Hg := Lib.hid hg
    have Hgk := Lib.hid hgk
    have Hn1 := Lib.hid hn1
    have Hn2 := Lib.hid hn2
    have HLl2 := Lib.hid hr2.lim
    obtain ⟨A1, m1, c1, rfl, Hm1, hmc1, hc1, HL1, hA1⟩ := hr1.open_
    obtain ⟨B2, m2, d2, rfl, Hm2, hmd2, hd2, HL2, hB2⟩ := hr2.open_
    clear hg hgk hn1 hn2
    have hm2b : m2 ≤ 10000000 := by have := Hm2.out; omega
    by_cases hbig : 2 < m2
    · have hpos : 0 < Num.val l2 := by
        rcases Nat.eq_zero_or_pos (Num.val l2) with h0 | h0
        · have h1 := Hn2.out.eq_nil h0
          have h2 := Hm2.out
          rw [h1] at h2
          simp at h2
          omega
        · exact h0
      go_wp2_with fail
      refine (divmod_pos _ _ l1 l2 wr hr1 hr2 hl1 hpos).mono ?_
      rintro e w1 ⟨v1, v2, rfl, _, l3, hr3, hn3, hv3, hb3⟩
      have Hv3 := Lib.hid hv3
      clear hv3
      go_wp2
      go_roundg (Num.val l3)
      case measure =>
        rw [Hv3.out, ← Hgk.out]
        exact Nat.mod_lt _ hpos
      case rel =>
        have hlt : Num.val l3 < Num.val l2 := by rw [Hv3.out]; exact Nat.mod_lt _ hpos
        have hlen := hn3.len_le (Nat.lt_trans hlt (Num.val_lt l2 HL2.out))
        refine ⟨l2, l3, hr2.below hb3, hr3, Hn2.out, hn3, ?_, rfl, hl2, by omega, hbl.trans (hb3.mono hbl.size)⟩
        rw [Hv3.out, Nat.gcd_comm, ← Nat.gcd_rec, Nat.gcd_comm]
        exact Hg.out
    · by_cases h0 : m2 = 0
      · subst h0
        have hz : Num.val l2 = 0 := by rw [List.eq_nil_of_length_eq_zero Hm2.out]; rfl
        have Hz := Lib.hid hz
        clear hz hbig
        go_wp2_with fail
        refine (clone_walk _ A1 m1 c1 l1 _ Hm1.out (by have := Hm1.out; omega) hA1).mono ?_
        rintro e w1 ⟨_, rfl, g, rfl, hg, hown, hb1⟩
        rw [Hm1.out]
        go_wp2
        go_ret
        have h1 := hown.rd (fun _ => True) trivial HL1.out (by have := Hm1.out; omega)
        rw [Hm1.out] at h1
        have h2 := Hg.out
        rw [Hz.out, Nat.gcd_zero_right] at h2
        exact ⟨_, rfl, l1, h1, Hn1.out, h2, hbl.trans (hb1.mono hbl.size)⟩
      · have t0 : ((m2 : Int) == 0) = false := by simp; omega
        have hpos : 0 < Num.val l2 := by
          rcases Nat.eq_zero_or_pos (Num.val l2) with hz | hz
          · have h1 := Hn2.out.eq_nil hz
            have h2 := Hm2.out
            rw [h1] at h2
            simp at h2
            omega
          · exact hz
        clear h0
        go_wp2_with fail
        refine (divmod_pos _ _ l1 l2 wr hr1 hr2 hl1 hpos).mono ?_
        rintro e w1 ⟨v1, v2, rfl, _, l3, hr3, hn3, hv3, hb3⟩
        have Hv3 := Lib.hid hv3
        have Hn3 := Lib.hid hn3
        obtain ⟨A3, m3, c3, rfl, Hm3, hmc3, hc3, HL3, hA3⟩ := hr3.open_
        clear hv3 hn3
        have hlt : Num.val l3 < Num.val l2 := by rw [Hv3.out]; exact Nat.mod_lt _ hpos
        have hlen := Hn3.out.len_le (Nat.lt_trans hlt (Num.val_lt l2 HL2.out))
        have hm3 : m3 ≤ 2 := by have := Hm3.out; have := Hm2.out; omega
        have hK2 : ∀ l : List Nat, Num.Lim l → l.length ≤ 2 → Num.val l < 18446744073709551616 := fun l h1 h2 => by
          have h3 := Num.val_lt l h1
          have h4 : Num.K ^ l.length ≤ Num.K ^ 2 := Nat.pow_le_pow_right Num.K_pos h2
          have h5 : Num.K ^ 2 = 18446744073709551616 := by decide +kernel
          omega
        have hx := hK2 l2 HL2.out (by have := Hm2.out; omega)
        have hy := hK2 l3 HL3.out (by have := Hm3.out; omega)
        clear hK2 hlen
        go_wp2_with fail
        refine (word_walk B2 m2 d2 l2 w1 Hm2.out (by omega) (hB2.below' hb3) HL2.out).mono ?_
        rintro e w' ⟨rfl, rfl⟩
        go_wp2_with fail
        refine (word_walk A3 m3 c3 l3 w1 Hm3.out hm3 hA3 HL3.out).mono ?_
        rintro e w' ⟨rfl, rfl⟩
        go_wp2_with fail
        refine (gcdWords_walk (Num.val l2) (Num.val l3) w1 hx hy).mono ?_
        rintro e w' ⟨gg, rfl, hgg, hggb, q, rfl⟩
        have Hgg := Lib.hid hgg
        clear hgg
        go_wp2_with fail
        refine (of_walk gg _ hggb).mono ?_
        rintro e w4 ⟨v, rfl, l4, hr4, hn4, hv4, hb4⟩
        go_wp2
        go_ret
        refine ⟨v, rfl, l4, hr4, hn4, ?_, ?_⟩
        · rw [hv4, Hgg.out, Hv3.out, Nat.gcd_comm, ← Nat.gcd_rec, Nat.gcd_comm]
          exact Hg.out
        · have h1 : Below w.heap.size w (w1.drewN q) := below_drewN (hbl.trans (hb3.mono hbl.size)) q
          exact h1.trans (hb4.mono h1.size)
end Go.Proofs.YtohlilgnognmgaaGreatDoor
/-
  The contract of natural.Gcd, said of numbers.
-/
namespace Go.Proofs.YtohlilgnognmgaaGreatDoor
open Go.RowKit

theorem gcd_n {w : World} {va vb : Value} {a b k j : Nat} (ha : Nm w va a k) (hb : Nm w vb b j) (hk : k ≤ 1000) (hj : j ≤ 1000) : Calls Tryz.prog 76 #[va, vb] w (NEnd (Nat.gcd a b) (max k j) w) := by
  have h1 := ha.lt
  have h2 := hb.lt
  obtain ⟨la, ra, rfl, na⟩ := ha
  obtain ⟨lb, rb, rfl, nb⟩ := hb
  refine (gcd_walk _ _ la lb w ra rb (by omega) (by omega)).mono fun e w' ⟨v, he, hr⟩ => ⟨v, he, hr.nz _ ?_⟩
  rcases Nat.eq_zero_or_pos (Num.val la) with h0 | h0
  · rw [h0, Nat.gcd_zero_left]
    exact Nat.lt_of_lt_of_le h2 (Nat.pow_le_pow_right Num.K_pos (Nat.le_max_right _ _))
  · exact Nat.lt_of_le_of_lt (Nat.gcd_le_left _ h0) (Nat.lt_of_lt_of_le h1 (Nat.pow_le_pow_right Num.K_pos (Nat.le_max_left _ _)))
end Go.Proofs.YtohlilgnognmgaaGreatDoor
/-
  The walks of natural.appendDigit, isNumeral and Parse.
-/
namespace Go.Proofs.YtohlilgnognmgaaGreatDoor
open Go.RowKit

/-- v owns a row of limbs among the blocks from base on. -/
def Row (w : World) (base : Nat) (v : Value) (l : List Nat) : Prop := w.ownsRow base 45 1 v l.length (l.map Lv)
theorem Row.open_ {w : World} {base : Nat} {v : Value} {l : List Nat} (h : Row w base v l) : ∃ A c, v = .slice A l.length c ∧ l.length ≤ c ∧ c ≤ 9223372036854775807 := by
  rcases h.2 with ⟨h1, h2⟩ | ⟨g, cap, cur, h1, _, _, h2, h3, _⟩
  · exact ⟨none, 0, by rw [h1, h2], by omega, by omega⟩
  · exact ⟨_, cap, h1, h2, by unfold maxLen at h3; omega⟩
theorem Row.addr {w : World} {base : Nat} {A : Option Addr} {n c : Nat} {l : List Nat} (h : Row w base (.slice A n c) l) (hl : 0 < l.length) : ∃ g, A = some ⟨g, 0, none⟩ ∧ base ≤ g := by
  rcases h.2 with ⟨h1, h2⟩ | ⟨g, cap, cur, h1, hb, _⟩
  · omega
  · injection h1 with h1
    exact ⟨g, h1, hb⟩
theorem Row.at_ {w : World} {base g n c : Nat} {l : List Nat} (h : Row w base (.slice (some ⟨g, 0, none⟩) n c) l) {j x : Nat} (hx : l[j]? = some x) : w.cell? ⟨g, j, none⟩ = some (.int .u32 (x : Int)) := by
  have hj := (List.getElem?_eq_some_iff.1 hx).1
  have hn : n = l.length := by
    rcases h.2 with ⟨h1, h2⟩ | ⟨g', cap, cur, h1, _⟩
    · omega
    · injection h1
  subst hn
  rw [World.ownsRow.cellAt h j (by omega), List.getElem?_map, hx]
  rfl
theorem Row.fz {w : World} {base g n c : Nat} {l : List Nat} (h : Row w base (.slice (some ⟨g, 0, none⟩) n c) l) (j : Nat) : w.frozen? ⟨g, j, none⟩ = false := by
  have hn : n = l.length := by
    rcases h.2 with ⟨h1, h2⟩ | ⟨g', cap, cur, h1, _⟩
    · simp at h1
    · injection h1
  subst hn
  exact World.ownsRow.frozenAt h j
theorem Row.set_ {w : World} {base g n c : Nat} {l : List Nat} (h : Row w base (.slice (some ⟨g, 0, none⟩) n c) l) (j x : Nat) (z : Int) (hz : z = (x : Int)) :
    Row (w.setCell ⟨g, j, none⟩ (.int .u32 z)) base (.slice (some ⟨g, 0, none⟩) n c) (l.set j x) := by
  have hn : n = l.length := by
    rcases h.2 with ⟨h1, h2⟩ | ⟨g', cap, cur, h1, _⟩
    · simp at h1
    · injection h1
  subst hn
  subst hz
  have h1 := (World.ownsRow.stored h j (.int .u32 (x : Int))).1
  unfold Row
  rw [List.length_set, List.map_set]
  exact h1
theorem Row.cel {w : World} {base : Nat} {A : Option Addr} {n c : Nat} {l : List Nat} (h : Row w base (.slice A n c) l) : Cel w (fun g => base ≤ g) A l := fun hl => by
  obtain ⟨g, rfl, hb⟩ := h.addr hl
  exact ⟨g, 0, rfl, hb, fun j x hx => by rw [Nat.zero_add]; exact h.at_ hx⟩
theorem Row.rd {w : World} {base : Nat} {v : Value} {l : List Nat} (h : Row w base v l) (hL : Num.Lim l) : Rd w (fun g => base ≤ g) v l := by
  obtain ⟨A, c, rfl, h1, h2⟩ := h.open_
  exact ⟨A, c, rfl, h1, h2, hL, h.cel⟩
theorem Row.nil (w : World) (base : Nat) : Row w base (.slice none 0 0) [] := World.ownsRow_nil w base _ 1

/-- The loop of appendDigit. -/
def AdInv (base : Nat) (v : Value) (k cr dg : Nat) (l : List Nat) (w wr : World) : Prop :=
  ∃ r, r.length = k ∧ Num.Lim r ∧ Num.val r + Num.K ^ k * cr = 10 * Num.val (l.take k) + dg ∧ Row wr base v (mid l 0 r) ∧ w.grownBy wr v.ownBlock
theorem ad_num (R P K cr L dg x t : Nat) (hv : R + P * cr = 10 * L + dg) (ht : t = cr + 10 * x) (d c' : Nat) (hd : d + K * c' = t) : R + P * d + P * K * c' = 10 * (L + P * x) + dg := by
  subst ht
  have h := congrArg (P * ·) hd
  simp only [Nat.mul_add, ← Nat.mul_assoc] at h ⊢
  have e1 : P * 10 * x = 10 * P * x := by rw [Nat.mul_comm P 10]
  omega
theorem AdInv.step {base g n c k cr dg : Nat} {l : List Nat} {w wr : World} (h : AdInv base (.slice (some ⟨g, 0, none⟩) n c) k cr dg l w wr) {x : Nat} (hx : l[k]? = some x) (z : Int) (hz : z = ((cr + 10 * x) % 4294967296 : Nat)) :
    AdInv base (.slice (some ⟨g, 0, none⟩) n c) (k + 1) ((cr + 10 * x) / 4294967296) dg l w (wr.setCell ⟨g, k, none⟩ (.int .u32 z)) := by
  obtain ⟨r, hk, hr, hv, hrow, hg⟩ := h
  have hlt := (List.getElem?_eq_some_iff.1 hx).1
  have e := mid_set l 0 r ((cr + 10 * x) % 4294967296) (by omega)
  rw [Nat.zero_add, hk] at e
  refine ⟨r ++ [(cr + 10 * x) % 4294967296], by simp [hk], hr.append (Num.Lim.cons (Nat.mod_lt _ (by decide)) Num.Lim.nil), ?_, by rw [← e]; exact hrow.set_ k _ z hz, only_setCell hg _ _⟩
  rw [Num.val_snoc, hk, val_take_succ l k x hx, Nat.pow_succ]
  exact ad_num _ _ _ _ _ _ _ _ hv rfl _ _ (Nat.mod_add_div _ _)
theorem nrm_of_val {l : List Nat} (hL : Num.Lim l) (h : l = [] ∨ Num.K ^ (l.length - 1) ≤ Num.val l) : Num.Nrm l := by
  rcases h with rfl | h
  · exact Num.Nrm.nil
  · intro he
    obtain ⟨a, x, rfl⟩ : ∃ a x, l = a ++ [x] := by
      have hne : l ≠ [] := by intro e; rw [e] at he; simp at he
      exact ⟨l.dropLast, l.getLast hne, (List.dropLast_concat_getLast hne).symm⟩
    have hx : x = 0 := by rw [List.getLast?_append] at he; simpa using he
    subst hx
    have h1 := Num.val_lt a (fun y hy => hL y (by simp [hy]))
    rw [Num.val_snoc, Nat.mul_zero, Nat.add_zero] at h
    simp at h
    omega

/-- What appendDigit returns. -/
def AdEnd (base m : Nat) (v : Value) (w : World) (e : Ending) (w' : World) : Prop := ∃ v' l', e = .returned v' ∧ Row w' base v' l' ∧ Num.Lim l' ∧ Num.Nrm l' ∧ Num.val l' = m ∧ w.grownBy w' v.ownBlock

end Go.Proofs.YtohlilgnognmgaaGreatDoor
/-
  The walks of natural.isNumeral and Parse.
-/
namespace Go.Proofs.YtohlilgnognmgaaGreatDoor
open Go.RowKit

def dgt (c : UInt8) : Bool := 48 ≤ c && c ≤ 57
theorem dgt_of (c : UInt8) (h1 : (48 : Int) ≤ (c.toNat : Int)) (h2 : (c.toNat : Int) ≤ 57) : dgt c = true := by
  simp [dgt, UInt8.le_iff_toNat_le]; omega
theorem dgt_lo (c : UInt8) (h1 : (c.toNat : Int) < 48) : dgt c = false := by
  rw [Bool.eq_false_iff]; simp [dgt, UInt8.le_iff_toNat_le]; omega
theorem dgt_hi (c : UInt8) (h1 : (57 : Int) < (c.toNat : Int)) : dgt c = false := by
  rw [Bool.eq_false_iff]; simp [dgt, UInt8.le_iff_toNat_le]; omega
/-- A number in decimal notation, without leading zeros. -/
def isNum (l : List UInt8) : Bool := !l.isEmpty && !(l.head? == some 48 && decide (1 < l.length)) && l.all dgt
theorem isNum_empty : isNum [] = false := rfl
theorem isNum_lead {l : List UInt8} (h : l[0]? = some 48) (h1 : 1 < l.length) : isNum l = false := by
  unfold isNum
  rw [List.head?_eq_getElem?, h]
  simp [h1]
theorem isNum_bad {l : List UInt8} {k : Nat} {c : UInt8} (h : l[k]? = some c) (hc : dgt c = false) : isNum l = false := by
  unfold isNum
  have : l.all dgt = false := by
    rw [List.all_eq_false]
    exact ⟨c, List.mem_of_getElem? h, by simp [hc]⟩
  simp [this]
theorem isNum_ok {l : List UInt8} (h : l ≠ []) (h1 : ¬ (l[0]? = some 48 ∧ 1 < l.length)) (h2 : ∀ (j : Nat) (c : UInt8), l[j]? = some c → dgt c = true) : isNum l = true := by
  unfold isNum
  have e1 : l.isEmpty = false := by cases l <;> simp_all
  have e2 : l.all dgt = true := by
    rw [List.all_eq_true]
    intro c hc
    obtain ⟨j, hj⟩ := List.getElem?_of_mem hc
    exact h2 j c hj
  rw [e1, e2, List.head?_eq_getElem?]
  by_cases h3 : l[0]? = some 48
  · have : ¬ 1 < l.length := fun h4 => h1 ⟨h3, h4⟩
    simp [this]
  · have : (l[0]? == some 48) = false := by simpa using h3
    simp [this]

theorem byte_at (s : ByteArray) (k : Nat) (h : k < s.size) : s.data.toList[k]? = some s[k] := by
  rw [List.getElem?_eq_getElem (by simpa using h)]; rfl
def NumlEnd (l : List UInt8) (w : World) (e : Ending) (w' : World) : Prop := e = .returned (.bool (isNum l)) ∧ w = w'

theorem not_nil (s : ByteArray) (h : 0 < s.size) : ¬ s.toList = [] := by
  rw [ByteArray.toList_eq]
  intro e
  have h1 : s.data.toList.length = 0 := by rw [e]; rfl
  simp at h1
  have h3 : s.size = 0 := by rw [← ByteArray.size_data, h1]; rfl
  omega
/-- The number with these digits. -/
def decVal (l : List UInt8) : Nat := l.foldl (fun a c => 10 * a + (c.toNat - 48)) 0
theorem decVal_snoc (l : List UInt8) (c : UInt8) : decVal (l ++ [c]) = 10 * decVal l + (c.toNat - 48) := by simp [decVal]
theorem decVal_take (l : List UInt8) (k : Nat) (c : UInt8) (h : l[k]? = some c) : decVal (l.take (k + 1)) = 10 * decVal (l.take k) + (c.toNat - 48) := by
  rw [List.take_add_one, h]
  exact decVal_snoc _ _
theorem isNum_dgt {l : List UInt8} (h : isNum l = true) {k : Nat} {c : UInt8} (hc : l[k]? = some c) : 48 ≤ c.toNat ∧ c.toNat ≤ 57 := by
  unfold isNum at h
  simp only [Bool.and_eq_true, List.all_eq_true] at h
  have h1 := h.2 c (List.mem_of_getElem? hc)
  simp [dgt, UInt8.le_iff_toNat_le] at h1
  exact ⟨by omega, by omega⟩

/-- Parse returns the number and OK. -/
def ParseEnd (m : Nat) (w : World) (e : Ending) (w' : World) : Prop := ∃ v, e = .returned (.tuple #[v, .int .i64 0]) ∧ Res w w' v m
theorem ad_len {l l' : List Nat} {dg : Nat} (hL : Num.Lim l) (hN : Num.Nrm l') (hv : Num.val l' = 10 * Num.val l + dg) (hdg : dg < 10) : l'.length ≤ l.length + 1 := by
  refine hN.len_le ?_
  have h1 := Num.val_lt l hL
  rw [hv, Nat.pow_succ]
  have h2 : Num.K ^ l.length * 10 ≤ Num.K ^ l.length * Num.K := Nat.mul_le_mul_left _ (by decide)
  omega
theorem Row.new (w : World) : Row (w.alloc (.cells #[] 45)) w.heap.size (.slice (some ⟨w.heap.size, 0, none⟩) 0 0) [] := World.ownsRow_lit w #[] 0 (Nat.le_refl _) (by decide) rfl

end Go.Proofs.YtohlilgnognmgaaGreatDoor
/-
  Plain arithmetic of decimal notation: groups of nine digits; no program is named here.
-/
namespace Go.Proofs.YtohlilgnognmgaaGreatDoor
namespace Txt

/-- The last k digits of g. -/
def pad : Nat → Nat → List UInt8
  | 0, _ => []
  | k + 1, g => pad k (g / 10) ++ [UInt8.ofNat (48 + g % 10)]
theorem dec_pad (n : Nat) (hn : 0 < n) : ∀ k g, g < 10 ^ k → Lib.decDigits (n * 10 ^ k + g) = Lib.decDigits n ++ pad k g := by
  intro k
  induction k with
  | zero => intro g hg; have : g = 0 := by simpa using hg
            subst this; simp [pad]
  | succ k ih =>
    intro g hg
    have h10 : 10 ≤ n * 10 ^ (k + 1) + g := by
      have : 1 * 10 ≤ n * 10 ^ (k + 1) := Nat.mul_le_mul hn (by rw [Nat.pow_succ]; have := Nat.pow_pos (n := k) (show 0 < 10 by omega); omega)
      omega
    have e1 : (n * 10 ^ (k + 1) + g) / 10 = n * 10 ^ k + g / 10 := by
      rw [Nat.pow_succ, ← Nat.mul_assoc]
      generalize n * 10 ^ k = a
      omega
    have e2 : (n * 10 ^ (k + 1) + g) % 10 = g % 10 := by
      rw [Nat.pow_succ, ← Nat.mul_assoc]
      generalize n * 10 ^ k = a
      omega
    rw [Lib.decDigits, dif_neg (by omega), e1, e2, ih (g / 10) (by rw [Nat.pow_succ] at hg; omega), List.append_assoc]
    rfl
theorem pad_nine (g : Nat) (hg : g < 1000000000) : Lib.decDigits (1000000000 + g) = 49 :: pad 9 g := by
  have h := dec_pad 1 (by omega) 9 g hg
  rw [Nat.one_mul] at h
  rw [show (1000000000 : Nat) = 10 ^ 9 from rfl, h, Lib.decDigits_one (by omega)]
  rfl
/-- The value of groups of nine digits. -/
def v9 : List Nat → Nat
  | [] => 0
  | x :: l => x + 1000000000 * v9 l
def G9 (l : List Nat) : Prop := ∀ x ∈ l, x < 1000000000
theorem v9_snoc (l : List Nat) (x : Nat) : v9 (l ++ [x]) = v9 l + 1000000000 ^ l.length * x := by
  induction l with
  | nil => simp [v9]
  | cons y l ih => simp only [List.cons_append, v9, ih, List.length_cons, Nat.pow_succ]; rw [Nat.mul_add, ← Nat.mul_assoc, Nat.mul_comm 1000000000 (1000000000 ^ l.length)]; omega
theorem v9_pos {l : List Nat} (hne : l ≠ []) (hl : l.getLast? ≠ some 0) : 0 < v9 l := by
  induction l with
  | nil => exact absurd rfl hne
  | cons x l ih =>
    by_cases h : l = []
    · subst h
      have : x ≠ 0 := by intro e; apply hl; simp [e]
      simp only [v9]; omega
    · have h2 := ih h (by rwa [List.getLast?_cons_of_ne_nil h] at hl)
      simp only [v9]
      omega
theorem getLast_drop {l : List Nat} {k : Nat} (hk : k < l.length) (hl : l.getLast? ≠ some 0) : (l.drop k).getLast? ≠ some 0 := by
  rw [List.getLast?_drop]
  rw [if_neg (by omega)]
  exact hl
/-- One group more is written. -/
theorem text_step {l : List Nat} {k x : Nat} (hx : l[k]? = some x) (hk : k + 1 < l.length) (hG : G9 l) (hl : l.getLast? ≠ some 0) : Lib.decDigits (v9 (l.drop k)) = Lib.decDigits (v9 (l.drop (k + 1))) ++ pad 9 x := by
  have hx9 : x < 1000000000 := hG x (List.mem_of_getElem? hx)
  have e : l.drop k = x :: l.drop (k + 1) := by
    have hk' := (List.getElem?_eq_some_iff.1 hx).1
    rw [List.drop_eq_getElem_cons hk', (List.getElem?_eq_some_iff.1 hx).2]
  have hp : 0 < v9 (l.drop (k + 1)) := v9_pos (by intro e; have := congrArg List.length e; simp at this; omega) (getLast_drop hk hl)
  rw [e, v9]
  have h := dec_pad (v9 (l.drop (k + 1))) hp 9 x hx9
  rw [show (10 : Nat) ^ 9 = 1000000000 from rfl] at h
  rw [← h]
  congr 1
  omega
theorem text_last {l : List Nat} {k x : Nat} (hx : l[k]? = some x) (hk : k + 1 = l.length) : v9 (l.drop k) = x := by
  have hk' := (List.getElem?_eq_some_iff.1 hx).1
  rw [List.drop_eq_getElem_cons hk', List.drop_of_length_le (by omega), (List.getElem?_eq_some_iff.1 hx).2]
  simp [v9]
theorem pad_length : ∀ k g, (pad k g).length = k := by
  intro k
  induction k with
  | zero => intro g; rfl
  | succ k ih => intro g; simp [pad, ih]
theorem dec_length_le (n : Nat) : ∀ k, n < 10 ^ k → 0 < k → (Lib.decDigits n).length ≤ k := by
  intro k
  induction k generalizing n with
  | zero => intro _ h; omega
  | succ k ih =>
    intro hn _
    by_cases h : n < 10
    · rw [Lib.decDigits_one h]; simp
    · have h0 : 0 < k := by
        rcases Nat.eq_zero_or_pos k with h0 | h0
        · subst h0; simp at hn; omega
        · exact h0
      rw [Lib.decDigits, dif_neg h, List.length_append]
      have := ih (n / 10) (by rw [Nat.pow_succ] at hn; omega) h0
      simp
      omega
end Txt
end Go.Proofs.YtohlilgnognmgaaGreatDoor
/-
  Plain facts on decimal notation: reading what was written gives the number back, and the other way round; no program is named here.
-/
namespace Go.Proofs.YtohlilgnognmgaaGreatDoor
namespace Txt

theorem rev_ind {motive : List UInt8 → Prop} (nil : motive []) (snoc : ∀ l c, motive l → motive (l ++ [c])) (l : List UInt8) : motive l := by
  have go : ∀ n (l : List UInt8), l.length = n → motive l := by
    intro n
    induction n with
    | zero => intro l h; rw [List.eq_nil_of_length_eq_zero h]; exact nil
    | succ n ih =>
      intro l h
      have hne : l ≠ [] := by intro e; rw [e] at h; simp at h
      rw [← List.dropLast_concat_getLast hne]
      exact snoc _ _ (ih _ (by rw [List.length_dropLast]; omega))
  exact go _ l rfl
theorem chr (d : Nat) (h : d < 10) : (UInt8.ofNat (48 + d)).toNat = 48 + d := by
  simp [UInt8.toNat_ofNat']
  omega
theorem chr_dgt (d : Nat) (h : d < 10) : dgt (UInt8.ofNat (48 + d)) = true := by
  have := chr d h
  exact dgt_of _ (by omega) (by omega)
theorem dec_big (n : Nat) (h : ¬ n < 10) : Lib.decDigits n = Lib.decDigits (n / 10) ++ [UInt8.ofNat (48 + n % 10)] := by
  rw [Lib.decDigits, dif_neg h]
theorem read_dec (n : Nat) : decVal (Lib.decDigits n) = n := by
  induction n using Nat.strongRecOn with
  | ind n ih =>
    by_cases h : n < 10
    · rw [Lib.decDigits_one h]
      simp only [decVal, List.foldl_cons, List.foldl_nil, chr n h]
      omega
    · rw [dec_big n h, decVal_snoc, ih (n / 10) (by omega), chr _ (Nat.mod_lt _ (by omega))]
      omega
theorem dec_ne (n : Nat) : Lib.decDigits n ≠ [] := by
  by_cases h : n < 10
  · rw [Lib.decDigits_one h]; simp
  · rw [dec_big n h]; simp
theorem dec_all (n : Nat) : ∀ c ∈ Lib.decDigits n, dgt c = true := by
  induction n using Nat.strongRecOn with
  | ind n ih =>
    intro c hc
    by_cases h : n < 10
    · rw [Lib.decDigits_one h] at hc
      rw [List.mem_singleton.1 hc]
      exact chr_dgt n h
    · rw [dec_big n h] at hc
      rcases List.mem_append.1 hc with h1 | h1
      · exact ih (n / 10) (by omega) c h1
      · rw [List.mem_singleton.1 h1]
        exact chr_dgt _ (Nat.mod_lt _ (by omega))
theorem dec_head (n : Nat) (h0 : 0 < n) : (Lib.decDigits n)[0]? ≠ some 48 := by
  induction n using Nat.strongRecOn with
  | ind n ih =>
    by_cases h : n < 10
    · rw [Lib.decDigits_one h]
      intro e
      have h1 := chr n h
      rw [Option.some.inj e] at h1
      have : (48 : UInt8).toNat = 48 := rfl
      omega
    · rw [dec_big n h, List.getElem?_append_left (List.length_pos_iff.2 (dec_ne _))]
      exact ih (n / 10) (by omega) (by omega)
theorem dec_isNum (n : Nat) : isNum (Lib.decDigits n) = true := by
  refine isNum_ok (dec_ne n) ?_ (fun j c h => dec_all n c (List.mem_of_getElem? h))
  rintro ⟨h1, h2⟩
  rcases Nat.eq_zero_or_pos n with h0 | h0
  · rw [h0, Lib.decDigits_one (by omega)] at h2
    simp at h2
  · exact dec_head n h0 h1
theorem decVal_pos (l : List UInt8) (hd : ∀ c ∈ l, 48 ≤ c.toNat ∧ c.toNat ≤ 57) (hne : l ≠ []) (h0 : l[0]? ≠ some 48) : 0 < decVal l := by
  induction l using rev_ind with
  | nil => exact absurd rfl hne
  | snoc l c ih =>
    rw [decVal_snoc]
    by_cases hl : l = []
    · subst hl
      have hc := hd c (by simp)
      have : c ≠ 48 := by intro e; apply h0; simp [e]
      have : c.toNat ≠ 48 := by intro e; exact this (UInt8.toNat_inj.1 e)
      omega
    · have := ih (fun x hx => hd x (by simp [hx])) hl (by rwa [List.getElem?_append_left (List.length_pos_iff.2 hl)] at h0)
      omega
theorem dec_read (l : List UInt8) (h : isNum l = true) : Lib.decDigits (decVal l) = l := by
  have hd : ∀ c ∈ l, 48 ≤ c.toNat ∧ c.toNat ≤ 57 := fun c hc => by
    obtain ⟨j, hj⟩ := List.getElem?_of_mem hc
    exact isNum_dgt h hj
  have hlead : ¬ (l[0]? = some 48 ∧ 1 < l.length) := fun ⟨h1, h2⟩ => by rw [isNum_lead h1 h2] at h; cases h
  have hne : l ≠ [] := by intro e; rw [e] at h; cases h
  clear h
  induction l using rev_ind with
  | nil => exact absurd rfl hne
  | snoc l c ih =>
    have hc := hd c (by simp)
    have hcc : UInt8.ofNat (48 + (c.toNat - 48)) = c := by
      rw [show 48 + (c.toNat - 48) = c.toNat from by omega]
      exact UInt8.ofNat_toNat
    rw [decVal_snoc]
    by_cases hl : l = []
    · subst hl
      simp only [decVal, List.foldl_nil, Nat.mul_zero, Nat.zero_add, List.nil_append]
      rw [Lib.decDigits_one (by omega), hcc]
    · have hlen := List.length_pos_iff.2 hl
      have h0 : l[0]? ≠ some 48 := fun e => hlead ⟨by rw [List.getElem?_append_left hlen]; exact e, by simp; omega⟩
      have hp := decVal_pos l (fun x hx => hd x (by simp [hx])) hl h0
      rw [dec_big _ (by omega), show (10 * decVal l + (c.toNat - 48)) / 10 = decVal l from by omega, show (10 * decVal l + (c.toNat - 48)) % 10 = c.toNat - 48 from by omega, hcc, ih (fun x hx => hd x (by simp [hx])) (fun h => h0 h.1) hl]
end Txt
end Go.Proofs.YtohlilgnognmgaaGreatDoor
/-
  The walks of strings.Builder's copyCheck and WriteString at a builder that the call itself has made.
-/
namespace Go.Proofs.YtohlilgnognmgaaGreatDoor
open Go.RowKit

theorem info_byte : (Tryz.prog.info? 5).map (fun i => (i.zero, i.size, i.bytes)) = some (some (.int .u8 0), 1, 1) := by kernel_rfl
end Go.Proofs.YtohlilgnognmgaaGreatDoor
/-
  The walks of natural.groupsOfNine and Text.
-/
namespace Go.Proofs.YtohlilgnognmgaaGreatDoor
open Go.RowKit

/-- The library's table of powers of ten holds what its initialiser lays. -/
def Tab (w : World) : Prop := Lib.TabIs Tryz.prog w "internal/strconv.uint64pow10" IntKind.u64 Lib.pow10Tab
theorem Tab.below {w w' : World} (h : Tab w) (hb : Below w.heap.size w w') : Tab w' := (Lib.tabBelow_of_tabIs h) w' hb

def ItoaEnd (n : Nat) (w : World) (e : Ending) (w' : World) : Prop := e = .returned (.string ⟨(Lib.decDigits n).toArray⟩) ∧ Below w.heap.size w w'
theorem itoa_walk (n : Nat) (w : World) (hn : n ≤ 9223372036854775807) (ht : Tab w) :
    Calls Tryz.prog 96 #[.int .i64 (n : Int)] w (ItoaEnd n w) := by
  refine (Tryz.strconv_Itoa (n : Int) (by omega) (by omega) w ht).mono ?_
  rintro e w' ⟨rfl, k, os, rfl⟩
  refine ⟨by rw [Lib.itoa_nonneg], rfl, rfl, rfl, ?_, fun i hi => ?_⟩
  · show w.heap.size ≤ (w.heap ++ os).size
    rw [Array.size_append]; omega
  · exact Sort.heap_grow_old (w.drewN k) os hi

/-- The groups of a number. -/
def GroupsEnd (m : Nat) (w : World) (e : Ending) (w' : World) : Prop :=
  ∃ v gs, e = .returned v ∧ Rd w' (fun _ => True) v gs ∧ Below w.heap.size w w' ∧ Txt.G9 gs ∧ Txt.v9 gs = m ∧ gs.getLast? ≠ some 0 ∧ gs.length ≤ 100000
/-- What the loop of groupsOfNine keeps. -/
def GrInv (m g n : Nat) (w : World) (gk : Nat) (x y : Value) (wr : World) : Prop :=
  ∃ j l gs, x = .slice (some ⟨g, 0, none⟩) j n ∧ Own 45 wr g l ∧ l.length = n ∧ j ≤ n ∧ Num.Lim l ∧ Num.Nrm (l.take j) ∧ Num.val (l.take j) = gk ∧
    Row wr (g + 1) y gs ∧ Txt.G9 gs ∧ Txt.v9 gs + 1000000000 ^ gs.length * gk = m ∧ (gk = 0 → gs.getLast? ≠ some 0) ∧ gs.length ≤ 2 * n ∧ Below w.heap.size w wr

theorem div9_walk (g n c : Nat) (l : List Nat) (w : World) (hown : Own 45 w g l) (hfit : n ≤ l.length) (hc : n ≤ 9223372036854775807) (hL : Num.Lim l) :
    Calls Tryz.prog 87 #[.slice (some ⟨g, 0, none⟩) n c, .int .u32 1000000000] w (LimbEnd 45 g n 1000000000 l w) := by
  have h := divideByLimb_walk g n c 1000000000 l w hown hfit hc hL (by omega) (by omega)
  exact h

theorem groups_bound {gs : List Nat} {m n gk V : Nat} (h : V + 1000000000 ^ gs.length * gk = m) (hgk : 0 < gk) (hm : m < Num.K ^ n) : gs.length < 2 * n := by
  have h1 : 1000000000 ^ gs.length ≤ 1000000000 ^ gs.length * gk := Nat.le_mul_of_pos_right _ hgk
  have h2 : Num.K ^ n ≤ (1000000000 ^ 2) ^ n := Nat.pow_le_pow_left (by rw [Num.K_eq]; omega) n
  rw [← Nat.pow_mul] at h2
  have h3 : 1000000000 ^ gs.length < 1000000000 ^ (2 * n) := by omega
  exact (Nat.pow_lt_pow_iff_right (by omega)).1 h3

theorem extract_tail (c : UInt8) (l : List UInt8) : ({ data := (c :: l).toArray } : ByteArray).extract 1 (l.length + 1) = ⟨l.toArray⟩ := by
  apply ByteArray.ext
  apply Array.toList_inj.1
  have h := Lib.extract_to_end ({ data := (c :: l).toArray } : ByteArray) 1
  have e : ({ data := (c :: l).toArray } : ByteArray).size = l.length + 1 := by simp [ByteArray.size]
  rw [e] at h
  rw [h]
  rfl
def TextEnd (m : Nat) (w : World) (e : Ending) (w' : World) : Prop := e = .returned (.string ⟨(Lib.decDigits m).toArray⟩) ∧ Below w.heap.size w w'
theorem builder_keep {T e : TypeId} {B b : Nat} {bs : List Value} {w w' : World} (h : Lib.IsBuilder T e B b bs w) (hb : Below w.heap.size w w') : Lib.IsBuilder T e B b bs w' := by
  have go : ∀ p, Lib.BuilderAt T e B b p bs w → Lib.BuilderAt T e B b p bs w' := by
    rintro p ⟨hB, v, hh, hown, hne⟩
    have hlt : b < w.heap.size := by
      rcases Nat.lt_or_ge b w.heap.size with h' | h'
      · exact h'
      · simp [Array.getElem?_eq_none h'] at hh
    exact ⟨hB, v, (hb.block b hlt).trans hh, hown.kept (row := none) ⟨hb.os, hb.tape, hb.output, hb.size, fun k hk _ => hb.block k hk⟩ (by cases hv : v.ownBlock <;> simp), hne⟩
  rcases h with h | h
  · exact .inl (go _ h)
  · exact .inr (go _ h)

end Go.Proofs.YtohlilgnognmgaaGreatDoor
/-
  The contracts of natural's Text and Parse, said of numbers.
-/
namespace Go.Proofs.YtohlilgnognmgaaGreatDoor
open Go.RowKit

/-- A call returns the string t. -/
def StrEnd (t : ByteArray) (w : World) (e : Ending) (w' : World) : Prop := e = .returned (.string t) ∧ Below w.heap.size w w'
def PNEnd (m k : Nat) (w : World) (e : Ending) (w' : World) : Prop := ∃ v, e = .returned (.tuple #[v, .int .i64 0]) ∧ Nz w' v m k ∧ Below w.heap.size w w'
theorem decVal_lt (l : List UInt8) (h : ∀ c ∈ l, c.toNat ≤ 57) : decVal l < 10 ^ l.length := by
  induction l using Txt.rev_ind with
  | nil => simp [decVal]
  | snoc l c ih =>
    have h1 := ih (fun x hx => h x (by simp [hx]))
    have h2 := h c (by simp)
    rw [decVal_snoc, List.length_append]
    show _ < 10 ^ (l.length + 1)
    rw [Nat.pow_succ]
    omega
theorem Nz.holds_some {w : World} {v : Value} {m k : Nat} (h : Nz w v m k) (hm : 0 < m) : ∃ A n c, v = .slice A n c ∧ 0 < n := by
  obtain ⟨l, h1, h0, h2, h3⟩ := h
  obtain ⟨A, c, e⟩ := h1.len
  refine ⟨A, _, c, e, ?_⟩
  rcases Nat.eq_zero_or_pos l.length with h | h
  · rw [List.eq_nil_of_length_eq_zero h] at h2
    simp [Num.val] at h2
    omega
  · exact h
theorem Nz.wide {w : World} {v : Value} {m k k' : Nat} (h : Nz w v m k) (hk : k ≤ k') : Nz w v m k' := by
  obtain ⟨l, h1, h2, h3, h4⟩ := h
  exact ⟨l, h1, h2, h3, by omega⟩
end Go.Proofs.YtohlilgnognmgaaGreatDoor
