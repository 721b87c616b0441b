/-
  The walks of natural.Of and natural.DivMod.
-/
import Derived.Test.YthcoemkbdllcfaaDoorDivD
namespace Go.Proofs.YthcoemkbdllcfaaDoor
open Go.RowKit

theorem Res.mk' {w w' : World} {g k c : Nat} {r : List Nat} {m : Nat} (ho : Own 46 w' g r) (hL : Num.Lim r) (hk : k ≤ r.length) (hkc : k ≤ c) (hc : c ≤ 9223372036854775807) (hz : Num.Zer r k) (hn : Num.Nrm (r.take k)) (hv : Num.val r = m) (hb : Below w.heap.size w w') : Res w w' (.slice (some ⟨g, 0, none⟩) k c) m :=
  ⟨r.take k, ho.rdTake _ trivial hL k c hk hkc hc, hn, by rw [hz.val hk]; exact hv, hb⟩
theorem Own.new (w : World) (t : TypeId) (l : List Nat) : Own t (w.alloc (.cells (l.map Lv).toArray t)) w.heap.size l := heap_alloc_new w _

set_option maxRecDepth 4000 in
set_option maxHeartbeats 400000 in
theorem of_walk (n : Nat) (w : World) (hn : n < 18446744073709551616) :
    Calls Tryd.prog 51 #[.int .u64 (n : Int)] w fun e w' => ∃ v, e = .returned v ∧ Res w w' v n := by
  go_enter Tryd.func51, Tryd.ntmps51
  have hown : Own 46 (w.alloc (Obj.cells #[Value.int IntKind.u32 ((n : Int) % 4294967296), Value.int IntKind.u32 ((n : Int) / 4294967296)] 46)) w.heap.size [n % 4294967296, n / 4294967296] := by
    unfold Own
    rw [heap_alloc_new]
    simp [Lv]
  have hL : Num.Lim [n % 4294967296, n / 4294967296] := Num.Lim.cons (by rw [Num.K_eq]; exact Nat.mod_lt _ (by omega)) (Num.Lim.cons (by rw [Num.K_eq]; omega) Num.Lim.nil)
  have hb : Below w.heap.size w (w.alloc (Obj.cells #[Value.int IntKind.u32 ((n : Int) % 4294967296), Value.int IntKind.u32 ((n : Int) / 4294967296)] 46)) := (Below.refl _ _).alloc (Nat.le_refl _) _
  go_wp2_with fail
  refine (trim_walk (fun _ => True) _ 2 2 [n % 4294967296, n / 4294967296] _ rfl (Nat.le_refl _) (by omega) hown.celTop).mono ?_
  rintro e w' ⟨⟨k, hk, rfl, hz, hnr⟩, rfl⟩
  go_wp2
  go_ret
  refine ⟨_, rfl, Res.mk' hown hL (by simpa using hk) hk (by omega) hz hnr ?_ hb⟩
  simp only [Num.val, Num.K_eq]
  omega

/-- DivMod returns quotient, remainder and true. -/
def DivEnd (q r : Nat) (w : World) (e : Ending) (w' : World) : Prop := ∃ v1 v2, e = .returned (.tuple #[v1, v2, .bool true]) ∧ Res w w' v1 q ∧ Res w w' v2 r

set_option maxRecDepth 4000 in
set_option maxHeartbeats 1000000 in
theorem divmod_zero (va vb : Value) (la lb : List Nat) (w : World) (ha : Rd w (fun _ => True) va la) (hb : Rd w (fun _ => True) vb lb) (h0 : Num.val lb = 0) :
    Calls Tryd.prog 50 #[va, vb] w fun e w' => e = .returned (.tuple #[.slice none 0 0, .slice none 0 0, .bool false]) ∧ w = w' := by
  obtain ⟨A, n, c, rfl, Hn, hnc, hc, HLa, hA⟩ := ha.open_
  obtain ⟨B, m, d, rfl, Hm, hmd, hd, HLb, hB⟩ := hb.open_
  have H0 := Lib.hid h0
  clear ha hb h0
  go_enter Tryd.func50, Tryd.ntmps50
  go_wp2_with fail
  refine (trim_walk _ A n c la _ Hn.out.symm hnc hc hA).mono ?_
  rintro e w' ⟨⟨k1, hk1, rfl, hza, hna⟩, rfl⟩
  go_wp2_with fail
  refine (trim_walk _ B m d lb _ Hm.out.symm hmd hd hB).mono ?_
  rintro e w' ⟨⟨k2, hk2, rfl, hzb, hnb⟩, rfl⟩
  have e0 : k2 = 0 := by
    have h1 := hzb.val (by have := Hm.out; omega)
    have h2 := hnb.eq_nil (by rw [h1]; exact H0.out)
    have h3 : (lb.take k2).length = 0 := by rw [h2]; rfl
    rw [List.length_take] at h3
    have := Hm.out
    omega
  subst e0
  clear hza hna hzb hnb
  go_wp2
  go_ret3
  exact ⟨rfl, rfl⟩

set_option maxRecDepth 4000 in
set_option maxHeartbeats 4000000 in
theorem divmod_pos (va vb : Value) (la lb : List Nat) (w : World) (ha : Rd w (fun _ => True) va la) (hb : Rd w (fun _ => True) vb lb) (hla : la.length ≤ 10000000) (h0 : 0 < Num.val lb) :
    Calls Tryd.prog 50 #[va, vb] w (DivEnd (Num.val la / Num.val lb) (Num.val la % Num.val lb) w) := by
  obtain ⟨A, n, c, rfl, Hn, hnc, hc, HLa, hA⟩ := ha.open_
  obtain ⟨B, m, d, rfl, Hm, hmd, hd, HLb, hB⟩ := hb.open_
  have hn : n ≤ 10000000 := by have := Hn.out; omega
  have H0 := Lib.hid h0
  clear ha hb h0 hla
  go_enter Tryd.func50, Tryd.ntmps50
  go_wp2_with fail
  refine (trim_walk _ A n c la _ Hn.out.symm hnc hc hA).mono ?_
  rintro e w' ⟨⟨k1, hk1, rfl, hza, hna⟩, rfl⟩
  go_wp2_with fail
  refine (trim_walk _ B m d lb _ Hm.out.symm hmd hd hB).mono ?_
  rintro e w' ⟨⟨k2, hk2, rfl, hzb, hnb⟩, rfl⟩
  have Hva := Lib.hid (hza.val (by have := Hn.out; omega))
  have Hvb := Lib.hid (hzb.val (by have := Hm.out; omega))
  have La : Hid ((la.take k1).length = k1) := by show _ = _; have := Hn.out; rw [List.length_take]; omega
  have Lb : Hid ((lb.take k2).length = k2) := by show _ = _; have := Hm.out; rw [List.length_take]; omega
  have hA1 := hA.take k1
  have hB1 := hB.take k2
  have HLa1 : Hid (Num.Lim (la.take k1)) := HLa.out.take _
  have HLb1 : Hid (Num.Lim (lb.take k2)) := HLb.out.take _
  have Hna := Lib.hid hna
  have Hnb := Lib.hid hnb
  obtain ⟨la1, hla1⟩ : ∃ l, l = la.take k1 := ⟨_, rfl⟩
  obtain ⟨lb1, hlb1⟩ : ∃ l, l = lb.take k2 := ⟨_, rfl⟩
  rw [← hla1] at La Hva hA1 HLa1 Hna
  rw [← hlb1] at Lb Hvb hB1 HLb1 Hnb
  clear hla1 hlb1 hA hB hna hnb hza hzb
  have hk2p : 1 ≤ k2 := by
    rcases Nat.eq_zero_or_pos k2 with h | h
    · have h1 := Hvb.out
      have h2 := H0.out
      have h3 : lb1 = [] := List.eq_nil_of_length_eq_zero (by have := Lb.out; omega)
      rw [h3, Num.val_nil] at h1
      omega
    · exact h
  have t0 : ((k2 : Int) == 0) = false := by simp; omega
  by_cases hlt : k1 < k2
  · have hba : Below w.heap.size w (w.alloc (.cells #[] 46)) := (Below.refl _ _).alloc (Nat.le_refl _) _
    have Hless : Hid (Num.val la1 < Num.val lb1) := Num.Nrm.lt_of_length HLa1.out Hnb.out (by have := La.out; have := Lb.out; omega)
    go_wp2_with fail
    refine (clone_walk _ A k1 c la1 _ La.out (by omega) (hA1.below' hba)).mono ?_
    rintro e w1 ⟨_, rfl, g, rfl, hg, hown, hb1⟩
    rw [La.out]
    go_wp2
    go_ret3
    have hbw : Below w.heap.size w w1 := hba.trans (hb1.mono hba.size)
    refine ⟨_, _, rfl, ⟨[], ⟨_, 0, rfl, Nat.le_refl _, by omega, Num.Lim.nil, Cel.nil _ _ _⟩, Num.Nrm.nil, ?_, hbw⟩, ⟨la1, ?_, Hna.out, ?_, hbw⟩⟩
    · rw [← Hva.out, ← Hvb.out, Num.val_nil, Nat.div_eq_of_lt Hless.out]
    · have := hown.rd (fun _ => True) trivial HLa1.out (by have := La.out; omega)
      rwa [La.out] at this
    · rw [← Hva.out, ← Hvb.out, Nat.mod_eq_of_lt Hless.out]
  · by_cases h1 : k2 = 1
    · subst h1
      obtain ⟨gb, ob, rfl, _, hcb⟩ := hB1 (by have := Lb.out; omega)
      obtain ⟨x, hx⟩ : ∃ x, lb1 = [x] := by
        have := Lb.out
        match lb1, this with
        | [x], _ => exact ⟨x, rfl⟩
      have hcx := hcb 0 x (by rw [hx]; rfl)
      rw [Nat.add_zero] at hcx
      have hxb : x < 4294967296 := by have := HLb1.out; rw [hx] at this; exact this x (by simp)
      have hxv : Hid (Num.val lb1 = x) := by show _ = _; rw [hx, Num.val_one]
      have hx0 : 0 < x := by have h1 := hxv.out; have h2 := Hvb.out; have h3 := H0.out; omega
      clear hx hcb
      go_wp2_with fail
      refine (clone_walk _ A k1 c la1 _ La.out (by omega) hA1).mono ?_
      rintro e w1 ⟨_, rfl, g, rfl, hg, hown, hb1⟩
      rw [La.out]
      have hcx1 : w1.cell? ⟨gb, ob, none⟩ = some (.int .u32 (x : Int)) := by rw [hb1.cell (World.block_lt_of_cell? w _ hcx)]; exact hcx
      clear hcx
      go_wp2_with fail
      refine (divideByLimb_walk g k1 k1 x la1 w1 hown (by have := La.out; omega) (by omega) HLa1.out hx0 hxb).mono ?_
      rintro e w2 ⟨rm, hrm, rfl, q, hq, hLq, hvq, ho2, hg2⟩
      have Hrm := Lib.hid hrm
      have Hq := Lib.hid hq
      have Hvq := Lib.hid hvq
      have ho2' : Own 46 w2 g q := by rw [mid_whole _ _ (by have := La.out; omega)] at ho2; exact ho2
      have hrmb : rm < 4294967296 := by rw [hrm]; exact Nat.lt_trans (Nat.mod_lt _ hx0) hxb
      clear hrm hq hvq ho2
      go_wp2_with fail
      refine (trim_walk (fun _ => True) _ k1 k1 q w2 (by have := Hq.out; omega) (Nat.le_refl _) (by omega) ho2'.celTop).mono ?_
      rintro e w' ⟨⟨j, hj, rfl, hz, hnr⟩, rfl⟩
      have Hz := Lib.hid hz
      have Hnr := Lib.hid hnr
      clear hz hnr
      go_wp2_with fail
      refine (of_walk rm w2 (by omega)).mono ?_
      rintro e w3 ⟨v, rfl, l3, hrd3, hn3, hv3, hb3⟩
      go_wp2
      go_ret3
      have hbw2 : Below w.heap.size w w2 := below_only hb1 hg hg2
      have hbw : Below w.heap.size w w3 := hbw2.trans (hb3.mono hbw2.size)
      have ho3 := ho2'.below hb3 ho2'.lt
      have hdv : Num.val q = Num.val la / Num.val lb := by rw [Hvq.out, List.take_of_length_le (by have := La.out; omega), ← hxv.out, Hva.out, Hvb.out]
      refine ⟨_, _, rfl, Res.mk' ho3 hLq (by have := Hq.out; omega) hj (by omega) Hz.out Hnr.out hdv hbw, ⟨l3, hrd3, hn3, ?_, hbw⟩⟩
      rw [hv3, Hrm.out, List.take_of_length_le (by have := La.out; omega), ← hxv.out, Hva.out, Hvb.out]
    · have t1 : ((k2 : Int) == 1) = false := by simp; omega
      obtain ⟨m2, rfl⟩ : ∃ j, k2 = j + 2 := ⟨k2 - 2, by omega⟩
      clear h1
      go_wp2_with fail
      refine (divideLong_walk A B k1 m2 c d la1 lb1 _ La.out Lb.out (by omega) (by omega) hc (by omega) hd (by omega) hA1 hB1 HLa1.out HLb1.out Hnb.out).mono ?_
      rintro e w' ⟨v1, v2, rfl, hr1, hr2⟩
      go_wp2
      go_ret3
      rw [Hva.out, Hvb.out] at hr1 hr2
      exact ⟨v1, v2, rfl, hr1, hr2⟩
end Go.Proofs.YthcoemkbdllcfaaDoor
