/-
  The walks of the reader's tree and of Decode: the panic is recovered by the deferred function.
-/
import Derived.Test.YtmklladpalcjpaaDoorCodL
import Derived.Test.YtmklladpalcjpaaDoorCodG
import Derived.Test.YtmklladpalcjpaaDoorCodJ
import Derived.Lib.Builder
namespace Go.Proofs.YtmklladpalcjpaaDoor
open Go.RowKit Cod
set_option linter.unusedVariables false

theorem ofL_cons_ne2 {r : List UInt8} (h : ¬ r = []) : ¬ (ofL r).toList = [] := fun e => h (by rwa [ByteArray.toList_eq] at e)
/-- One cell that can be written. -/
def Rr1 (w : World) (g : Nat) (u : Value) : Prop := w.cell? ⟨g, 0, none⟩ = some u ∧ w.frozen? ⟨g, 0, none⟩ = false
theorem Rr1.kp {w w' : World} {g r : Nat} {u : Value} (h : Rr1 w r u) (hk : Kp g w w') (hne : r ≠ g) : Rr1 w' r u := by
  have hb := hk.block r (World.block_lt_of_cell? w _ h.1) (fun e => hne (Option.some.inj e))
  exact ⟨(World.cell?_of_block (a := ⟨r, 0, none⟩) hb).trans h.1, (World.frozen?_of_block (a := ⟨r, 0, none⟩) hb).trans h.2⟩
theorem Bn.far {w : World} {g r : Nat} {v0 v1 v2 : Value} (h : Bn w g v0 v1 v2) (hne : g ≠ r) (i : Nat) (u : Value) : Bn (w.setCell ⟨r, i, none⟩ u) g v0 v1 v2 := by
  have e : ∀ j : Nat, (⟨r, i, none⟩ : Addr) ≠ ⟨g, j, none⟩ := fun j h => hne (Addr.mk.inj h).1.symm
  exact ⟨(World.cell?_setCell_other _ _ _ _ (e _)).trans h.1, (World.cell?_setCell_other _ _ _ _ (e _)).trans h.2.1, (World.cell?_setCell_other _ _ _ _ (e _)).trans h.2.2.1, by simpa using h.2.2.2.1, by simpa using h.2.2.2.2.1, by simpa using h.2.2.2.2.2⟩
theorem below_kp {B g : Nat} {a b c : World} (h : Below B a b) (k : Kp g b c) (hg : B ≤ g) (hs : B ≤ b.heap.size) : Below B a c :=
  h.trans ⟨k.os, k.tape, k.output, k.size, fun i hi => k.block i (by omega) (fun e => by have := Option.some.inj e; omega)⟩
/-- What tree answers. -/
def treeR (L : List UInt8) : Except Nat Nd :=
  match pN 12 L with
  | .error x => .error x
  | .ok (n, r) => if r.isEmpty = true then .ok n else .error 2
theorem treeR_err {L : List UInt8} {x : Nat} (h : nodeR 12 0 L = .error x) : treeR L = .error x := by
  rw [nodeR_in 12 0 L (by omega)] at h
  unfold treeR
  rw [h]
theorem treeR_two {L r : List UInt8} {n : Nd} (h : nodeR 12 0 L = .ok (n, r)) (hr : ¬ r = []) : treeR L = .error 2 := by
  rw [nodeR_in 12 0 L (by omega)] at h
  unfold treeR
  rw [h]
  exact if_neg (by simpa using hr)
theorem treeR_yes {L : List UInt8} {n : Nd} (h : nodeR 12 0 L = .ok (n, [])) : treeR L = .ok n := by
  rw [nodeR_in 12 0 L (by omega)] at h
  unfold treeR
  rw [h]
  rfl
theorem decd_tree {L : List UInt8} (h : L.length ≤ 20000) : decd L = treeR L := by
  unfold decd treeR
  rw [if_neg (by omega)]
  cases pN 12 L with
  | error x => rfl
  | ok q => rfl
/-- What tree leaves. -/
def TreeEnd (g : Nat) (R : Except Nat Nd) (w : World) (e : Ending) (w' : World) : Prop :=
  match R with
  | .ok n => ∃ (l : Bool) (t : ByteArray) (A : Option Addr) (m c : Nat), e = .returned (.agg #[.bool l, .string t, .slice A m c]) ∧ RdM (fun k => w.heap.size ≤ k) w' n (.agg #[.bool l, .string t, .slice A m c]) ∧ Kp g w w'
  | .error x => e = PanE x ∧ Kp g w w'
theorem TreeEnd.err {g : Nat} {R : Except Nat Nd} {w w' : World} {x : Nat} (h : R = .error x) (hk : Kp g w w') : TreeEnd g R w (PanE x) w' := by subst h; exact ⟨rfl, hk⟩
theorem tree_yes {g : Nat} {R : Except Nat Nd} {w wa w2 : World} {n : Nd} {l : Bool} {t : ByteArray} {A : Option Addr} {m c : Nat} (o : Obj) (hR : R = .ok n) (hM : RdM (fun k => wa.heap.size ≤ k) w2 n (.agg #[.bool l, .string t, .slice A m c])) (hs : w.heap.size < wa.heap.size) (hg : g < w.heap.size) (K : Kp g w (w2.alloc o)) :
    TreeEnd g R w (.returned (.agg #[.bool l, .string t, .slice A m c])) ((((w2.alloc o).setCell ⟨w.heap.size, 0, none⟩ (.bool l)).setCell ⟨w.heap.size, 1, none⟩ (.string t)).setCell ⟨w.heap.size, 2, none⟩ (.slice A m c)) := by
  subst hR
  have hM := hM.below (up_1 w2 o)
  refine ⟨l, t, A, m, c, rfl, ?_, ((K.set (Nat.le_refl _) _ _).set (Nat.le_refl _) _ _).set (Nat.le_refl _) _ _⟩
  exact (((hM.put _ _ (by show ¬ _ ≤ _; omega) _).put _ _ (by show ¬ _ ≤ _; omega) _).put _ _ (by show ¬ _ ≤ _; omega) _).mono (fun k (hk : wa.heap.size ≤ k) => (by omega : w.heap.size ≤ k))
set_option maxRecDepth 20000 in
set_option maxHeartbeats 1000000 in
theorem tree_walk (g : Nat) (L : List UInt8) (w : World) (hr : Rr w g L) (hl : L.length ≤ 20000) : Calls Tryd.prog 21 #[.pointer (some ⟨g, 0, none⟩)] w (TreeEnd g (treeR L) w) := by
  have B0 := up_1 w (.cells #[.bool false, .string ⟨#[]⟩, .slice none 0 0] 25)
  have kr := Bn.new w (.bool false) (.string ⟨#[]⟩) (.slice none 0 0) 25
  have hg := hr.lt
  have hr := hr.below B0
  have K := Kp.of_below (g := g) B0
  have hs1 : (w.alloc (.cells #[.bool false, .string ⟨#[]⟩, .slice none 0 0] 25)).heap.size = w.heap.size + 1 := by simp
  have HN : Hid (Calls Tryd.prog 28 #[.pointer (some ⟨g, 0, none⟩), .int .i64 1, .int .i64 0] (w.alloc (.cells #[.bool false, .string ⟨#[]⟩, .slice none 0 0] 25)) (NodeEnd g (nodeR 12 0 L) (w.alloc (.cells #[.bool false, .string ⟨#[]⟩, .slice none 0 0] 25)))) := (node_c 12).use g 0 1 L _ (by omega) (by omega) (by omega) hl hr
  cases hx : nodeR 12 0 L with
  | error x =>
    have hT := Lib.hid (treeR_err hx)
    have Hx := Lib.hid hx
    clear hx
    go_enter Tryd.func21, Tryd.ntmps21
    go_wp2_with (first | (go_at_call 28; (with_reducible refine HN.out.mono ?_); rw [Hx.out]; rintro e w2 ⟨rfl, bb⟩; have K := K.trans bb; clear bb))
    exact ⟨rfl, TreeEnd.err hT.out K⟩
  | ok q =>
    obtain ⟨n, r⟩ := q
    by_cases hr0 : r = []
    · subst hr0
      have hT := Lib.hid (treeR_yes hx)
      have Hx := Lib.hid hx
      clear hx
      go_enter Tryd.func21, Tryd.ntmps21
      go_wp2_with (first | (go_at_call 28; (with_reducible refine HN.out.mono ?_); rw [Hx.out]; rintro e w2 ⟨l, t, A, m, c, rfl, hM, hr, bb⟩; have hr := hr.below (up_1 w2 (.cells #[.bool l, .string t, .slice A m c] 25)); have h0 : World.cell? _ _ = some (.string ⟨#[]⟩) := hr.1; have kr := (kr.kp bb (by omega)).up (.cells #[.bool l, .string t, .slice A m c] 25); have K := (K.trans bb).up (up_1 w2 (.cells #[.bool l, .string t, .slice A m c] 25)); have k0 := kr.1; have k1 := kr.2.1; have k2 := kr.2.2.1; have k3 := kr.2.2.2.1; have k4 := kr.2.2.2.2.1; have k5 := kr.2.2.2.2.2; clear bb))
      have kp := kr.put (.bool l) (.string t) (.slice A m c)
      have p0 := kp.1
      have p1 := kp.2.1
      have p2 := kp.2.2.1
      refine bodyPost_ret (v := .agg #[.bool l, .string t, .slice A m c]) (by simp [results, Tryd.results21, go_sem, p0, p1, p2]) rfl ?_
      exact tree_yes (wa := w.alloc (.cells #[.bool false, .string ⟨#[]⟩, .slice none 0 0] 25)) _ hT.out hM (by omega) hg K
    · have hT := Lib.hid (treeR_two hx hr0)
      have hne : (ofL r).toList.isEmpty = false := by
        have := ofL_cons_ne2 hr0
        simpa using this
      have Hx := Lib.hid hx
      clear hx hr0
      go_enter Tryd.func21, Tryd.ntmps21
      go_wp2_with (first | (go_at_call 28; (with_reducible refine HN.out.mono ?_); rw [Hx.out]; rintro e w2 ⟨l, t, A, m, c, rfl, hM, hr, bb⟩; have hr := hr.below (up_1 w2 (.cells #[.bool l, .string t, .slice A m c] 25)); have h0 := hr.1; have K := (K.trans bb).up (up_1 w2 (.cells #[.bool l, .string t, .slice A m c] 25)); clear bb))
      exact ⟨rfl, TreeEnd.err hT.out K⟩
/-! ### The deferred function -/
theorem catch_idle (p : Addr) (w : World) :
    CallsD Tryd.prog 20 #[.pointer (some p)] .returning w fun e u' w' => e = .returned (.tuple #[]) ∧ u' = .returning ∧ w' = w := by
  refine callsD_of_wpS Tryd.func20 rfl fun c₀ cs hu => ?_
  apply wpS_seq
  apply wpS_region
  simp [wpOpsS, go_sem, recoverD, hu, Tryd.ntmps20, Exit.thenS]
  apply wpS_seq
  apply wpS_region
  simp [wpOpsS, go_sem, Exit.thenS]
  refine wpS_cond (t := false) (by simp [Act.eval, Array.replicate]) ?_
  simp only [Bool.false_eq_true, if_false]
  refine wpS_of_wp (wp_skip ?_)
  cases c₀
  simp_all [bodyPostS, results, Tryd.results20]
theorem catch_panicking (p : Addr) (x y : Int) (older : List PanicEntry) (w : World) (hc : w.cell? p = some (.int .i64 y)) (hz : w.frozen? p = false) :
    CallsD Tryd.prog 20 #[.pointer (some p)] (.panicking ({ v := .iface 26 (.int .i64 x), recovered := false } :: older)) w fun e u' w' =>
      e = .returned (.tuple #[]) ∧ u' = .panicking ({ v := .iface 26 (.int .i64 x), recovered := true } :: older) ∧ w' = w.setCell p (.int .i64 x) := by
  have hta : ∀ (t : TypeId) (w : World), (Instr.typeAssert (.iface 26 (.int .i64 x)) t 26 false).run Tryd.prog w = .ok (.int .i64 x) w := fun _ _ => by kernel_rfl
  refine callsD_of_wpS Tryd.func20 rfl fun c₀ cs hu => ?_
  apply wpS_seq
  apply wpS_region
  simp [wpOpsS, go_sem, recoverD, hu, Tryd.ntmps20, Exit.thenS]
  apply wpS_seq
  apply wpS_region
  simp [wpOpsS, go_sem, Exit.thenS]
  refine wpS_cond (t := true) (by simp [Act.eval, Array.replicate]) ?_
  simp only [if_true]
  apply wpS_region
  simp [wpOpsS, go_sem, hta, hc, hz, bodyPostS, results, Tryd.results20]
theorem decd_bad2 {L : List UInt8} {x : Nat} (h : treeR L = .error x) (hl : L.length ≤ 20000) : decd L = .error x := by rw [decd_tree hl, h]
set_option maxRecDepth 20000 in
set_option maxHeartbeats 2000000 in
/-- Decode. -/
theorem decode_c (s : ByteArray) (w : World) (hmax : s.size ≤ 140737488351232) : Calls Tryd.prog 11 #[.string s] w (DecEnd (decd s.data.toList) w) := by
  have hmf : ∀ (fn : Fn) (first cap : Array Value) (w : World), (Instr.makeFunc fn first cap).run Tryd.prog w = .ok (.func fn first cap) w := fun _ _ _ _ => rfl
  have hlen : s.data.toList.length = s.size := by simp
  by_cases hbig : 20000 < s.size
  · have hT := Lib.hid (decd_long (s := s.data.toList) (by omega))
    clear hlen
    go_enter_defers Tryd.func11, Tryd.ntmps11
    go_wp2
    have kr := (Bn.new w (.bool false) (.string ⟨#[]⟩) (.slice none 0 0) 25).up (.cells #[.int .i64 5] 26)
    have k0 := kr.1
    have k1 := kr.2.1
    have k2 := kr.2.2.1
    have k3 : ((w.alloc (.cells #[.bool false, .string ⟨#[]⟩, .slice none 0 0] 25)).alloc (.cells #[.int .i64 5] 26)).cell? ⟨w.heap.size + 1, 0, none⟩ = some (.int .i64 5) := by
      have h := heap_alloc_new (w.alloc (.cells #[.bool false, .string ⟨#[]⟩, .slice none 0 0] 25)) (.cells #[.int .i64 5] 26)
      rw [show (w.alloc (.cells #[.bool false, .string ⟨#[]⟩, .slice none 0 0] 25)).heap.size = w.heap.size + 1 by simp] at h
      rw [Lib.cell_of_heap h]
      rfl
    refine (show Leaves _ _ _ _ [] .returning _ from ⟨.tuple #[.agg #[.bool false, .string ⟨#[]⟩, .slice none 0 0], .int .i64 5], by simp [results, Tryd.results11, go_sem, k0, k1, k2, k3], DecEnd.err hT.out (up_2 w _ _)⟩)
  · have hl : s.data.toList.length ≤ 20000 := by omega
    obtain ⟨W1, hW1⟩ : ∃ W, W = (w.alloc (.cells #[.bool false, .string ⟨#[]⟩, .slice none 0 0] 25)).alloc (.cells #[.int .i64 0] 26) := ⟨_, rfl⟩
    have hs1 : W1.heap.size = w.heap.size + 2 := by rw [hW1]; simp
    have hr : Rr (W1.alloc (.cells #[.string s] 43)) (w.heap.size + 2) s.data.toList := by
      have h := heap_alloc_new W1 (.cells #[.string s] 43)
      rw [hs1] at h
      exact ⟨by rw [Lib.cell_of_heap h, ofL_eq]; rfl, Lib.frozen_of_heap h 0⟩
    have ka : Bn W1 w.heap.size (.bool false) (.string ⟨#[]⟩) (.slice none 0 0) := by
      rw [hW1]
      exact (Bn.new w (.bool false) (.string ⟨#[]⟩) (.slice none 0 0) 25).up (.cells #[.int .i64 0] 26)
    have kr := ka.up (.cells #[.string s] 43)
    have ke : Rr1 (W1.alloc (.cells #[.string s] 43)) (w.heap.size + 1) (.int .i64 0) := by
      have h := heap_alloc_new (w.alloc (.cells #[.bool false, .string ⟨#[]⟩, .slice none 0 0] 25)) (.cells #[.int .i64 0] 26)
      rw [show (w.alloc (.cells #[.bool false, .string ⟨#[]⟩, .slice none 0 0] 25)).heap.size = w.heap.size + 1 by simp, ← hW1] at h
      have h : (W1.alloc (.cells #[.string s] 43)).heap[w.heap.size + 1]? = _ := (Lib.alloc_old W1 _ _ (by omega)).trans h
      exact ⟨by rw [Lib.cell_of_heap h]; rfl, Lib.frozen_of_heap h 0⟩
    have B0 : Below w.heap.size w (W1.alloc (.cells #[.string s] 43)) := by rw [hW1]; exact up_3 w _ _ _
    have HTr := Lib.hid (tree_walk (w.heap.size + 2) s.data.toList _ hr hl)
    have HW1 := Lib.hid hW1
    have hs2 : (W1.alloc (.cells #[.string s] 43)).heap.size = w.heap.size + 3 := by simp; omega
    cases hx : treeR s.data.toList with
    | error x =>
      have hT := Lib.hid (decd_bad2 hx hl)
      have Hx := Lib.hid hx
      clear hx hlen hW1 hr hl ka
      go_enter_defers Tryd.func11, Tryd.ntmps11
      go_wp2_with (first | (go_at_call 21; rw [← HW1.out]; (with_reducible refine HTr.out.mono ?_); rw [Hx.out]; rintro e w2 ⟨rfl, K⟩))
      have ke := ke.kp K (by omega)
      have kr := (kr.kp K (by omega)).far (r := w.heap.size + 1) (by omega) 0 (.int .i64 (x : Int))
      have k0 := kr.1
      have k1 := kr.2.1
      have k2 := kr.2.2.1
      have k3 := World.cell?_setCell_same w2 ⟨w.heap.size + 1, 0, none⟩ (.int .i64 (x : Int)) ke.1
      have B2 := (below_kp B0 K (by omega) (by omega)).setCell (p := ⟨w.heap.size + 1, 0, none⟩) (by show _ ≤ _ + 1; omega) (.int .i64 (x : Int))
      refine leaves_cons (f := 20) (args := #[.pointer (some ⟨w.heap.size + 1, 0, none⟩)]) (by simp) (by simp [go_sem]) ?_
      refine (catch_panicking _ (x : Int) 0 [] w2 ke.1 ke.2).mono ?_
      rintro e u' w3 ⟨rfl, rfl, rfl⟩
      refine (show Leaves _ _ _ _ [] .returning _ from ⟨.tuple #[.agg #[.bool false, .string ⟨#[]⟩, .slice none 0 0], .int .i64 (x : Int)], by simp [results, Tryd.results11, go_sem, k0, k1, k2, k3], DecEnd.err hT.out B2⟩)
    | ok n =>
      have hT : Hid (decd s.data.toList = .ok n) := (decd_tree hl).trans hx
      have Hx := Lib.hid hx
      clear hx hlen hW1 hr hl ka
      go_enter_defers Tryd.func11, Tryd.ntmps11
      go_wp2_with (first | (go_at_call 21; rw [← HW1.out]; (with_reducible refine HTr.out.mono ?_); rw [Hx.out]; rintro e w2 ⟨l, t, A, m, c, rfl, hM, K⟩; have kr := kr.kp K (by omega); have ke := ke.kp K (by omega); have k0 := kr.1; have k1 := kr.2.1; have k2 := kr.2.2.1; have k3 := kr.2.2.2.1; have k4 := kr.2.2.2.2.1; have k5 := kr.2.2.2.2.2; have k6 := ke.1; have k7 := ke.2))
      have kp := (kr.put (.bool l) (.string t) (.slice A m c)).far (r := w.heap.size + 1) (by omega) 0 (.int .i64 0)
      have p0 := kp.1
      have p1 := kp.2.1
      have p2 := kp.2.2.1
      have p3 := World.cell?_setCell_same (((w2.setCell ⟨w.heap.size, 0, none⟩ (.bool l)).setCell ⟨w.heap.size, 1, none⟩ (.string t)).setCell ⟨w.heap.size, 2, none⟩ (.slice A m c)) ⟨w.heap.size + 1, 0, none⟩ (.int .i64 0) (((World.cell?_setCell_other _ _ _ _ (by simp)).trans ((World.cell?_setCell_other _ _ _ _ (by simp)).trans ((World.cell?_setCell_other _ _ _ _ (by simp)).trans ke.1))))
      have B2 := (up_put (below_kp B0 K (by omega) (by omega)) (Nat.le_refl _) (.bool l) (.string t) (.slice A m c)).setCell (p := ⟨w.heap.size + 1, 0, none⟩) (by show _ ≤ _ + 1; omega) (.int .i64 0)
      refine leaves_cons (f := 20) (args := #[.pointer (some ⟨w.heap.size + 1, 0, none⟩)]) (by simp) (by simp [go_sem]) ?_
      refine (catch_idle _ _).mono ?_
      rintro e u' w3 ⟨rfl, rfl, rfl⟩
      refine (show Leaves _ _ _ _ [] .returning _ from ⟨.tuple #[.agg #[.bool l, .string t, .slice A m c], .int .i64 0], by simp [results, Tryd.results11, go_sem, p0, p1, p2, p3], ?_⟩)
      rw [hT.out]
      refine ⟨_, _, _, _, _, 0, rfl, B2, rfl, ?_⟩
      exact ((((hM.put _ _ (by show ¬ _ ≤ _; omega) _).put _ _ (by show ¬ _ ≤ _; omega) _).put _ _ (by show ¬ _ ≤ _; omega) _).put _ _ (by show ¬ _ ≤ _; omega) _).mono (fun k (hk : (W1.alloc (.cells #[.string s] 43)).heap.size ≤ k) => (by omega : w.heap.size ≤ k))
end Go.Proofs.YtmklladpalcjpaaDoor
