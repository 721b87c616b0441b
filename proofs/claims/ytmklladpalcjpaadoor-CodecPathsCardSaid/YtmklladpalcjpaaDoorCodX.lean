/-
  The walk of the reference's Decode.
-/
import Derived.Test.YtmklladpalcjpaaDoorCodW
namespace Go.Proofs.YtmklladpalcjpaaDoor
open Go.RowKit Cod
set_option linter.unusedVariables false

theorem dec_end {s : ByteArray} {R : Except Nat Nd} {w wa w2 : World} {n : Nd} {l : Bool} {t : ByteArray} {A : Option Addr} {m c : Nat} (o : Obj) (hR : R = .ok n) (hM : RdM (fun g => wa.heap.size ≤ g) w2 n (.agg #[.bool l, .string t, .slice A m c])) (hs : w.heap.size < wa.heap.size) (hB : Below w.heap.size w (w2.alloc o)) :
    DecEnd R w (.returned (.tuple #[.agg #[.bool l, .string t, .slice A m c], .int .i64 0])) ((((w2.alloc o).setCell ⟨w.heap.size, 0, none⟩ (.bool l)).setCell ⟨w.heap.size, 1, none⟩ (.string t)).setCell ⟨w.heap.size, 2, none⟩ (.slice A m c)) := by
  subst hR
  refine ⟨_, _, _, _, _, 0, rfl, up_put hB (Nat.le_refl _) _ _ _, rfl, ?_⟩
  have h := hM.below (up_1 w2 o)
  exact (((h.put _ _ (by show ¬ _ ≤ _; omega) _).put _ _ (by show ¬ _ ≤ _; omega) _).put _ _ (by show ¬ _ ≤ _; omega) _).mono (fun g (hg : wa.heap.size ≤ g) => (by omega : w.heap.size ≤ g))
set_option maxRecDepth 20000 in
set_option maxHeartbeats 2000000 in
theorem rdecode_walk (s : ByteArray) (w : World) (hmax : s.size ≤ 140737488351232) : Calls Tryd.prog 12 #[.string s] w (DecEnd (decd s.data.toList) w) := by
  have hlen : s.data.toList.length = s.size := by simp
  have B0 := up_1 w (.cells #[.bool false, .string ⟨#[]⟩, .slice none 0 0] 25)
  have kr := Bn.new w (.bool false) (.string ⟨#[]⟩) (.slice none 0 0) 25
  have hBs : w.heap.size < (w.alloc (.cells #[.bool false, .string ⟨#[]⟩, .slice none 0 0] 25)).heap.size := by simp
  have k0 := kr.1
  have k1 := kr.2.1
  have k2 := kr.2.2.1
  by_cases hbig : 20000 < s.size
  · have hT := Lib.hid (decd_long (s := s.data.toList) (by omega))
    clear hlen
    go_enter Tryd.func12, Tryd.ntmps12
    go_wp2
    refine bodyPost_ret (v := .tuple #[.agg #[.bool false, .string ⟨#[]⟩, .slice none 0 0], .int .i64 5]) (by simp [results, Tryd.results12, go_sem, k0, k1, k2]) rfl (DecEnd.err hT.out B0)
  · have HW : Hid (Calls Tryd.prog 22 #[.string s, .int .i64 0, .int .i64 1] (w.alloc (.cells #[.bool false, .string ⟨#[]⟩, .slice none 0 0] 25)) (ResEnd s.data.toList (pN 12 s.data.toList) (w.alloc (.cells #[.bool false, .string ⟨#[]⟩, .slice none 0 0] 25)))) := by
      have h := rnode_walk 12 1 (by omega) s 0 (w.alloc (.cells #[.bool false, .string ⟨#[]⟩, .slice none 0 0] 25)) (by omega) (by omega)
      rw [List.drop_zero] at h
      exact h
    have hl2 : Hid (s.data.toList.length ≤ 20000) := by show _ ≤ _; omega
    have hlen := Lib.hid hlen
    cases hx : pN 12 s.data.toList with
    | error x =>
      have hT := Lib.hid (decd_err hl2.out hx)
      have hx0 : ((x : Int) == 0) = false := by have := pN_bad 12 _ x hx; simp; omega
      have Hx := Lib.hid hx
      clear hx
      go_enter Tryd.func12, Tryd.ntmps12
      go_wp2_with (first | (go_at_call 22; (with_reducible refine HW.out.mono ?_); rw [Hx.out]; rintro e w2 ⟨l, t, A, m, c, p', er, rfl, bb, hR⟩; obtain ⟨rfl, rfl, rfl, rfl, rfl, rfl, rfl⟩ := hR; have kr := kr.below bb; have hBs := Nat.le_trans hBs bb.size; have B0 := B0.trans (bb.mono B0.size); have kr := kr.up (.cells #[.bool false, .string ⟨#[]⟩, .slice none 0 0] 25); have B1 := B0.alloc B0.size (.cells #[.bool false, .string ⟨#[]⟩, .slice none 0 0] 25); have k0 := kr.1; have k1 := kr.2.1; have k2 := kr.2.2.1; have k3 := kr.2.2.2.1; have k4 := kr.2.2.2.2.1; have k5 := kr.2.2.2.2.2))
      have kp := kr.put (.bool false) (.string ⟨#[]⟩) (.slice none 0 0)
      have p0 := kp.1
      have p1 := kp.2.1
      have p2 := kp.2.2.1
      refine bodyPost_ret (v := .tuple #[.agg #[.bool false, .string ⟨#[]⟩, .slice none 0 0], .int .i64 (er : Int)]) (by simp [results, Tryd.results12, go_sem, p0, p1, p2]) rfl (DecEnd.err hT.out (up_put B1 (Nat.le_refl _) _ _ _))
    | ok q =>
      obtain ⟨n, r⟩ := q
      have Hx := Lib.hid hx
      by_cases hr0 : r = []
      · have hT := Lib.hid (decd_yes hl2.out (by rw [hx, hr0]))
        clear hx
        go_enter Tryd.func12, Tryd.ntmps12
        go_wp2_with (first | (go_at_call 22; (with_reducible refine HW.out.mono ?_); rw [Hx.out]; rintro e w2 ⟨l, t, A, m, c, p', er, rfl, bb, hR⟩; obtain ⟨he, hM, hr, hp'⟩ := hR; subst he; have hpl : ¬ p' < s.size := (by rw [hr0] at hr; have h1 := congrArg List.length hr; rw [List.length_drop, List.length_nil] at h1; have := hlen.out; omega); have kr := kr.below bb; have hBs := Nat.le_trans hBs bb.size; have B0 := B0.trans (bb.mono B0.size); have kr := kr.up (.cells #[.bool l, .string t, .slice A m c] 25); have B1 := B0.alloc B0.size (.cells #[.bool l, .string t, .slice A m c] 25); have k0 := kr.1; have k1 := kr.2.1; have k2 := kr.2.2.1; have k3 := kr.2.2.2.1; have k4 := kr.2.2.2.2.1; have k5 := kr.2.2.2.2.2))
        have kp := kr.put (.bool l) (.string t) (.slice A m c)
        have p0 := kp.1
        have p1 := kp.2.1
        have p2 := kp.2.2.1
        refine bodyPost_ret (v := .tuple #[.agg #[.bool l, .string t, .slice A m c], .int .i64 0]) (by simp [results, Tryd.results12, go_sem, p0, p1, p2]) rfl (dec_end (s := s) _ hT.out hM (by simp) B1)
      · have hT := Lib.hid (decd_two hl2.out hx hr0)
        clear hx
        go_enter Tryd.func12, Tryd.ntmps12
        go_wp2_with (first | (go_at_call 22; (with_reducible refine HW.out.mono ?_); rw [Hx.out]; rintro e w2 ⟨l, t, A, m, c, p', er, rfl, bb, hR⟩; obtain ⟨he, hM, hr, hp'⟩ := hR; subst he; have hpl : p' < s.size := (by have h2 := List.length_pos_iff.2 hr0; rw [hr, List.length_drop] at h2; have := hlen.out; omega); have kr := kr.below bb; have hBs := Nat.le_trans hBs bb.size; have B0 := B0.trans (bb.mono B0.size); have kr := kr.up (.cells #[.bool l, .string t, .slice A m c] 25); have B1 := B0.alloc B0.size (.cells #[.bool l, .string t, .slice A m c] 25); have k0 := kr.1; have k1 := kr.2.1; have k2 := kr.2.2.1; have k3 := kr.2.2.2.1; have k4 := kr.2.2.2.2.1; have k5 := kr.2.2.2.2.2))
        have kp := kr.put (.bool false) (.string ⟨#[]⟩) (.slice none 0 0)
        have p0 := kp.1
        have p1 := kp.2.1
        have p2 := kp.2.2.1
        refine bodyPost_ret (v := .tuple #[.agg #[.bool false, .string ⟨#[]⟩, .slice none 0 0], .int .i64 2]) (by simp [results, Tryd.results12, go_sem, p0, p1, p2]) rfl (DecEnd.err hT.out (up_put B1 (Nat.le_refl _) _ _ _))
end Go.Proofs.YtmklladpalcjpaaDoor
