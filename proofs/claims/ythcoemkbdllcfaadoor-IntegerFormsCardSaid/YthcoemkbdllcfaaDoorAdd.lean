/-
  The walk of natural.Add: the sum, in normal form, in memory of its own.
-/
import Derived.Test.YthcoemkbdllcfaaDoorBase
namespace Go.Proofs.YthcoemkbdllcfaaDoor
open Go.RowKit

set_option maxHeartbeats 1000000 in
theorem add_walk (va vb : Value) (la lb : List Nat) (w : World) (ha : Rd w (fun _ => True) va la) (hb : Rd w (fun _ => True) vb lb) (hla : la.length ≤ 10000000) (hlb : lb.length ≤ 10000000) :
    Calls Tryd.prog 46 #[va, vb] w fun e w' => ∃ v, e = .returned v ∧ Res w w' v (Num.val la + Num.val lb) := by
  obtain ⟨i0, hi, hz0, hz1, hz2⟩ := info_parts info_u32
  obtain ⟨A, n, c, rfl, Hn, hnc, hc, HLa, hA⟩ := ha.open_
  obtain ⟨B, m, d, rfl, Hm, hmd, hd, HLb, hB⟩ := hb.open_
  have hn : n ≤ 10000000 := by have := Hn.out; omega
  have hm : m ≤ 10000000 := by have := Hm.out; omega
  clear hla hlb ha hb
  go_enter Tryd.func46, Tryd.ntmps46
  go_wp2_with fail
  refine (trim_walk _ A n c la _ Hn.out.symm hnc hc hA).mono ?_
  rintro e w' ⟨⟨k1, hk1, rfl, hza, hna⟩, rfl⟩
  go_wp2_with fail
  refine (trim_walk _ B m d lb _ Hm.out.symm hmd hd hB).mono ?_
  rintro e w' ⟨⟨k2, hk2, rfl, hzb, hnb⟩, rfl⟩
  by_cases hlt : k1 < k2
  · go_wp2_with (first
      | (at_make; refine wpList_make_u32 _ rfl (.tmp 19) (.tmp 19) 23 rfl 46 i0 Tryd.underlying23 hi hz0 hz1 hz2 .i64 .i64 _ _ (k2 + 1) rfl rfl (by omega) (by omega) (by omega) ?_; intro g w1 hg1 hown1 hb1 hs1; have Hg := Lib.hid hg1; clear hg1)
      | (with_reducible refine wpList_copy_u32 rfl (.tmp 21) (.tmp 22) 23 23 rfl 46 Tryd.underlying23 size_u32 g (k2 + 1) (k2 + 1) k2 d B rfl rfl 46 _ (lb.take k2) (fun _ => True) hown1 (by simp) (by have := Hm.out; rw [List.length_take]; omega) (by omega) ((hB.take k2).below' hb1) ?_; intro w2 hown2 hb2)
      | (go_at_call 66; refine (addInto_walk A g 0 (k2 + 1) k1 (k2 + 1) c _ (la.take k1) w2 hown2 (by have := Hm.out; simp; omega) (by omega) (((hA.take k1).old.keep (S' := (· ≠ g)) (fun i hi => by have := Hg.out; have := hi.2; omega) (fun i o hi => (hb2.cell (p := ⟨i, o, none⟩) (by have := Hg.out; have := hi.2; exact (by omega : i < g))).trans (hb1.cell (p := ⟨i, o, none⟩) hi.2)))) (by have := Hn.out; rw [List.length_take]; omega) (by omega) (by omega) ((HLb.out.take _).append ((Num.Lim.replicate _).drop _)) (HLa.out.take _)).mono ?_; rintro e w3 ⟨rfl, hadd⟩)
      | (go_at_call 63; obtain ⟨r, hr, hLr, hvr, hown3, hgr3⟩ := hadd.fin (by have := Hm.out; rw [List.length_take]; omega) (by have := Hn.out; rw [List.length_take]; omega) (HLb.out.take _) (HLa.out.take _); have Hr := Lib.hid hr; have Hvr := Lib.hid hvr; clear hr hvr hadd; refine (trim_walk (fun _ => True) (some ⟨g, 0, none⟩) (k2 + 1) (k2 + 1) r w3 Hr.out.symm (Nat.le_refl _) (by omega) hown3.celTop).mono ?_; rintro e w4 ⟨⟨k, hk, rfl, hz, hnr⟩, rfl⟩))
    go_ret
    refine ⟨_, rfl, r.take k, ?_, hnr, ?_, ?_⟩
    · exact hown3.rdTake _ trivial hLr k (k2 + 1) (by have := Hr.out; omega) hk (by omega)
    · rw [hz.val (by have := Hr.out; omega), Hvr.out, hzb.val (by have := Hm.out; omega), hza.val (by have := Hn.out; omega)]; omega
    · exact (hb1.trans (hb2.mono (by have := Hg.out; omega))).trans ⟨hgr3.os, hgr3.tape, hgr3.output, hgr3.size, fun i hi => hgr3.block i (by have := hb1.size; have := hb2.size; omega) (by have := Hg.out; intro e; injection e with e; omega)⟩
  · go_wp2_with (first
      | (at_make; refine wpList_make_u32 _ rfl (.tmp 19) (.tmp 19) 23 rfl 46 i0 Tryd.underlying23 hi hz0 hz1 hz2 .i64 .i64 _ _ (k1 + 1) rfl rfl (by omega) (by omega) (by omega) ?_; intro g w1 hg1 hown1 hb1 hs1; have Hg := Lib.hid hg1; clear hg1)
      | (with_reducible refine wpList_copy_u32 rfl (.tmp 21) (.tmp 22) 23 23 rfl 46 Tryd.underlying23 size_u32 g (k1 + 1) (k1 + 1) k1 c A rfl rfl 46 _ (la.take k1) (fun _ => True) hown1 (by simp) (by have := Hn.out; rw [List.length_take]; omega) (by omega) ((hA.take k1).below' hb1) ?_; intro w2 hown2 hb2)
      | (go_at_call 66; refine (addInto_walk B g 0 (k1 + 1) k2 (k1 + 1) d _ (lb.take k2) w2 hown2 (by have := Hn.out; simp; omega) (by omega) (((hB.take k2).old.keep (S' := (· ≠ g)) (fun i hi => by have := Hg.out; have := hi.2; omega) (fun i o hi => (hb2.cell (p := ⟨i, o, none⟩) (by have := Hg.out; have := hi.2; exact (by omega : i < g))).trans (hb1.cell (p := ⟨i, o, none⟩) hi.2)))) (by have := Hm.out; rw [List.length_take]; omega) (by omega) (by omega) ((HLa.out.take _).append ((Num.Lim.replicate _).drop _)) (HLb.out.take _)).mono ?_; rintro e w3 ⟨rfl, hadd⟩)
      | (go_at_call 63; obtain ⟨r, hr, hLr, hvr, hown3, hgr3⟩ := hadd.fin (by have := Hn.out; rw [List.length_take]; omega) (by have := Hm.out; rw [List.length_take]; omega) (HLa.out.take _) (HLb.out.take _); have Hr := Lib.hid hr; have Hvr := Lib.hid hvr; clear hr hvr hadd; refine (trim_walk (fun _ => True) (some ⟨g, 0, none⟩) (k1 + 1) (k1 + 1) r w3 Hr.out.symm (Nat.le_refl _) (by omega) hown3.celTop).mono ?_; rintro e w4 ⟨⟨k, hk, rfl, hz, hnr⟩, rfl⟩))
    go_ret
    refine ⟨_, rfl, r.take k, ?_, hnr, ?_, ?_⟩
    · exact hown3.rdTake _ trivial hLr k (k1 + 1) (by have := Hr.out; omega) hk (by omega)
    · rw [hz.val (by have := Hr.out; omega), Hvr.out, hza.val (by have := Hn.out; omega), hzb.val (by have := Hm.out; omega)]
    · exact (hb1.trans (hb2.mono (by have := Hg.out; omega))).trans ⟨hgr3.os, hgr3.tape, hgr3.output, hgr3.size, fun i hi => hgr3.block i (by have := hb1.size; have := hb2.size; omega) (by have := Hg.out; intro e; injection e with e; omega)⟩
end Go.Proofs.YthcoemkbdllcfaaDoor
