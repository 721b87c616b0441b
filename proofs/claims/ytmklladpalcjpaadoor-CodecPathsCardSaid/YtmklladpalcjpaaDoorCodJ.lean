/-
  The walks of codec.clone and At.
-/
import Derived.Test.YtmklladpalcjpaaDoorCodE
import Derived.Test.YtmklladpalcjpaaDoorCodA
import Derived.Deep.RegionLaw
namespace Go.Proofs.YtmklladpalcjpaaDoor
open Go.RowKit Cod
set_option linter.unusedVariables false

/-- What clone leaves: the same tree in new memory. -/
def CloneEnd (x : Nd) (w : World) (e : Ending) (w' : World) : Prop :=
  ∃ (l : Bool) (t : ByteArray) (A : Option Addr) (m c : Nat), e = .returned (.agg #[.bool l, .string t, .slice A m c]) ∧ RdM (fun g => w.heap.size ≤ g) w' x (.agg #[.bool l, .string t, .slice A m c]) ∧ Below w.heap.size w w'
theorem sizeL_len : ∀ k : List Nd, k.length ≤ sizeL k
  | [] => by simp
  | .mk l t r :: k => by
    have := sizeL_len k
    rw [List.length_cons, sizeL, size]
    omega
theorem RdMS.bwk {B : Nat} {w w' : World} {k : List Nd} {v : Value} (h : RdMS (fun g => g < B) w k v) (hb : Bw B w w') : RdMS (fun g => g < B) w' k v := h.keep (fun _ h => h) (fun g o u hg hu => (hb.1.cell (p := ⟨g, o, none⟩) hg).trans hu)
theorem bn_0 {w : World} {g : Nat} {v0 v1 v2 : Value} (h : Bn w g v0 v1 v2) : w.cell? ⟨g, 0, none⟩ = some v0 := h.1
theorem bn_1 {w : World} {g : Nat} {v0 v1 v2 : Value} (h : Bn w g v0 v1 v2) : w.cell? ⟨g, 1, none⟩ = some v1 := h.2.1
theorem bn_2 {w : World} {g : Nat} {v0 v1 v2 : Value} (h : Bn w g v0 v1 v2) : w.cell? ⟨g, 2, none⟩ = some v2 := h.2.2.1
theorem RdM.drew {S : Nat → Prop} {w : World} {n : Nd} {v : Value} (h : RdM S w n v) : RdM S w.drew n v := h.below (Below.refl _ w).drew
theorem Kids.drew {B : Nat} {w : World} {v : Value} {acc : List Nd} (h : Kids B w v acc) : Kids B w.drew v acc := h.below (Below.refl _ w).drew
/-- The clone's box is read out. -/
theorem clone_end {l : Bool} {t : List UInt8} {k : List Nd} {A : Option Addr} {m c : Nat} {w wr : World} (K : Kids (w.heap.size + 2) wr (.slice A m c) k) (ht : t.length ≤ 140737488351232) (hB : Below w.heap.size w wr) :
    CloneEnd (.mk l t k) w (.returned (.agg #[.bool l, .string (ofL t), .slice A m c])) (((wr.setCell ⟨w.heap.size + 1, 0, none⟩ (.bool l)).setCell ⟨w.heap.size + 1, 1, none⟩ (.string (ofL t))).setCell ⟨w.heap.size + 1, 2, none⟩ (.slice A m c)) := by
  refine ⟨_, _, _, _, _, rfl, ?_, up_put hB (by omega) _ _ _⟩
  have h := RdM.of_parts (l := l) (t := t) (K.reads) ht
  refine RdM.mono ?_ (fun g (hg : w.heap.size + 2 ≤ g) => (by omega : w.heap.size ≤ g))
  exact ((h.put _ _ (by show ¬ _ ≤ _; omega) _).put _ _ (by show ¬ _ ≤ _; omega) _).put _ _ (by show ¬ _ ≤ _; omega) _
theorem Bw.of_up {B : Nat} {w w' : World} (hB : B ≤ w.heap.size) (h : Below w.heap.size w w') : Bw B w w' := ⟨h.mono hB, Nat.le_trans hB h.size⟩
/-- The append of a kid, at a step of a drawn region. -/
theorem step_kid {B : Nat} {w : World} {ops : Array Oper} {o : Oper} {a : Act} {K : Act → World → Prop} {Q : Exit → Act → World → Prop} {E : Prop} (hgd : o.guard = none) (s x : Operand)
    (ho : o.op = .call { callee := .builtin .append, args := #[s, x], argTypes := #[23, 23] }) (A' : Option Addr) (i c' : Nat) (acc : List Nd) (n : Nd) (l1 : Bool) (t1 : ByteArray) (A1 : Option Addr) (m1 c1 g0 : Nat)
    (hs : a.eval s = .slice A' i c') (hx : a.eval x = .slice (some ⟨g0, 0, none⟩) 1 1) (hi : Hid (acc.length = i)) (hi6 : i ≤ 1000000) (KK : Kids B w (.slice A' i c') acc) (hM : RdM (SB B (.slice A' i c') w.heap.size) w n (.agg #[.bool l1, .string t1, .slice A1 m1 c1]))
    (hcells : ∀ j u, [Value.bool l1, Value.string t1, Value.slice A1 m1 c1][j]? = some u → w.cell? ((⟨g0, 0, none⟩ : Addr).add j) = some u) (hB : B ≤ w.heap.size)
    (h : ∀ g cap w', Kids B w' (.slice (some ⟨g, 0, none⟩) (i + 1) cap) (acc ++ [n]) → Below B w w' → K (a.put o.dst (.slice (some ⟨g, 0, none⟩) (i + 1) cap)) w') :
    if Region.wanted o (yielded ops a.tmps) = true then Oper.wp Tryd.prog o a w K Q else E := by
  obtain ⟨i0, hi0, hz0, hz1, hz2⟩ := info_parts info_node
  obtain ⟨C, hrow, hC⟩ := KK
  have e := hi.out
  subst e
  refine step_append_lies _ hgd s x 23 ho B 25 i0 (.agg #[.bool false, .string ⟨#[]⟩, .slice none 0 0]) 3 48 Tryd.underlying23 hi0 hz0 hz1 hz2 rfl (by decide) _ _ C hs hrow _ 1 1 [.bool l1, .string t1, .slice A1 m1 c1] hx rfl hcells (one3 l1 t1 A1 m1 c1) (by decide) (by unfold maxLen; omega) (by omega) hB _ rfl ?_
  intro g' cap' w4 hrow4 hg4 hat4 hlt4
  exact h g' cap' w4 (Kids.append hC hM hrow4 hg4 hat4 rfl) (Below.grown (Below.refl B w) hg4 hB (fun k hk => (hrow.lt k hk).1))
set_option maxRecDepth 20000 in
set_option maxHeartbeats 2000000 in
theorem clone_walk : ∀ (x : Nd) (v : Value) (w : World), RdN w x v → size x ≤ 1000000 → Calls Tryd.prog 27 #[v] w (CloneEnd x w) := by
  intro x
  induction x using nd_ind with
  | h l t k ih =>
  intro v w hv hz
  obtain ⟨i0, hi0, hz0, hz1, hz2⟩ := info_parts info_node
  have hin := rdM_in _ _ hv
  obtain ⟨A, m, c, rfl, Hm, hmc, hc, ht, hk⟩ := hin.named
  have hk : RdMS (fun g => g < w.heap.size) w k (.slice A m c) := hk.mono (fun g hg => hg.2)
  rw [size] at hz
  have hm6 : m ≤ 1000000 := by have := sizeL_len k; have := Hm.out; omega
  have Hz : Hid (sizeL k ≤ 1000000) := by show _ ≤ _; omega
  have W0 : Bw w.heap.size w ((w.alloc (.cells #[.bool l, .string (ofL t), .slice none 0 0] 25)).alloc (.cells #[.bool false, .string ⟨#[]⟩, .slice none 0 0] 25)) := ⟨up_2 w _ _, (up_2 w _ _).size⟩
  have kb := (Bn.new w (.bool l) (.string (ofL t)) (.slice none 0 0) 25).up (.cells #[.bool false, .string ⟨#[]⟩, .slice none 0 0] 25)
  have kr := Bn.new (w.alloc (.cells #[.bool l, .string (ofL t), .slice none 0 0] 25)) (.bool false) (.string ⟨#[]⟩) (.slice none 0 0) 25
  rw [show (w.alloc (.cells #[.bool l, .string (ofL t), .slice none 0 0] 25)).heap.size = w.heap.size + 1 by simp] at kr
  have hk := hk.bwk W0
  have Hk : Hid (k.length = m) := Hm
  have hs2 : w.heap.size + 2 ≤ ((w.alloc (.cells #[.bool l, .string (ofL t), .slice none 0 0] 25)).alloc (.cells #[.bool false, .string ⟨#[]⟩, .slice none 0 0] 25)).heap.size := by simp
  have KK : Kids (w.heap.size + 2) ((w.alloc (.cells #[.bool l, .string (ofL t), .slice none 0 0] 25)).alloc (.cells #[.bool false, .string ⟨#[]⟩, .slice none 0 0] 25)) (.slice none 0 0) (k.take 0) := by rw [List.take_zero]; exact Kids.start _ _
  clear hv hin hz
  go_enter Tryd.func27, Tryd.ntmps27
  go_wp2
  go_loopw [11] (fun y wr => ∃ (i c' : Nat) (A' : Option Addr), i ≤ m ∧ y = .int .i64 (i : Int) ∧ Bn wr w.heap.size (.bool l) (.string (ofL t)) (.slice A' i c') ∧ Bn wr (w.heap.size + 1) (.bool false) (.string ⟨#[]⟩) (.slice none 0 0) ∧ Kids (w.heap.size + 2) wr (.slice A' i c') (k.take i) ∧ RdMS (fun g => g < w.heap.size) wr k (.slice A m c) ∧ w.heap.size + 2 ≤ wr.heap.size ∧ Bw w.heap.size w wr) (fun y _ => m - (intOf y).toNat)
  case atStart => exact ⟨0, 0, none, Nat.zero_le _, rfl, kb, kr, KK, hk, hs2, W0⟩
  case round =>
    clear kb kr KK hk hs2 W0
    obtain ⟨i, c', A', hi, rfl, kb, kr, KK, hk, hs2, W1⟩ := hrel
    by_cases hlt : i < m
    · obtain ⟨n, hn⟩ : ∃ n, k[i]? = some n := ⟨_, List.getElem?_eq_getElem (by have := Hk.out; omega)⟩
      obtain ⟨g, off, u0, u1, u2, rfl, c0, c1, c2, hM⟩ := hk.at hn
      have hMn : RdN wr n (.agg #[u0, u1, u2]) := hM.any
      have IH := Lib.hid (ih n (List.mem_of_getElem? hn))
      have Hzn : Hid (size n ≤ 1000000) := Nat.le_trans (sizeL_mem k i n hn) Hz.out
      have hL : Hid ((k.take i).length = i) := by show _ = _; rw [List.length_take]; have := Hk.out; omega
      have hT : Hid (k.take (i + 1) = k.take i ++ [n]) := by show _ = _; rw [List.take_add_one, hn]; rfl
      obtain ⟨ln, tn, kn⟩ := n
      obtain ⟨An, mn, cn, hag, -, -, -, -, -⟩ := hM.named
      simp only [Value.agg.injEq, Array.mk.injEq, List.cons.injEq, and_true] at hag
      obtain ⟨rfl, rfl, rfl⟩ := hag
      have U := up_1 wr (.cells #[.bool ln, .string (ofL tn), .slice An mn cn] 25)
      have hMn := hMn.below U
      have qb := Bn.new wr (.bool ln) (.string (ofL tn)) (.slice An mn cn) 25
      have qb_0 := qb.1
      have qb_1 := qb.2.1
      have qb_2 := qb.2.2.1
      have hk := hk.below U
      have kb := kb.below U
      have kr := kr.below U
      have KK := KK.below U
      have W1 := W1.up U
      have hs3 := Nat.le_trans hs2 U.size
      have q2 := kb.2.2.1
      clear hn ih hM
      go_wp2_with fail
      go_region_law
        (first
        | (go_simp; go_at_call 27; (with_reducible refine (IH.out _ _ hMn.drew Hzn.out).mono ?_); rintro e w2 ⟨l1, t1, A1, m1, c1, rfl, hM, bb⟩; have KK := KK.drew; have hM := Lib.hid (KK.new hs3 hM); have KK := KK.below bb; have kb := kb.drew.below bb; have kr := kr.drew.below bb; have b2 : Below w.heap.size (wr.alloc (.cells #[.bool ln, .string (ofL tn), .slice An mn cn] 25)) w2 := ((Below.refl _ (wr.alloc (.cells #[.bool ln, .string (ofL tn), .slice An mn cn] 25))).drew.trans bb).mono W1.2; have hk := hk.bwk ⟨b2, Nat.le_trans W1.2 bb.size⟩; have W1 := W1.drew.up bb; have hs3 := Nat.le_trans hs3 bb.size; have q2 := kb.2.2.1; have qb := qb.drew.below bb; have qb_0 := qb.1; have qb_1 := qb.2.1; have qb_2 := qb.2.2.1; have q3 := bn_2 (kb.up (.cells #[.bool l1, .string t1, .slice A1 m1 c1] 25)); clear bb b2; dsimp only)
        | (refine step_kid rfl (.tmp 16) (.tmp 19) rfl A' i c' (k.take i) _ l1 t1 A1 m1 c1 w2.heap.size rfl rfl hL (by omega) (KK.below (up_1 _ (.cells #[.bool l1, .string t1, .slice A1 m1 c1] 25))) (hM.out.wider (up_1 _ (.cells #[.bool l1, .string t1, .slice A1 m1 c1] 25))) (lit_cells3 _ _ _ _ _ _ rfl) (Nat.le_trans hs3 (up_1 w2 (.cells #[.bool l1, .string t1, .slice A1 m1 c1] 25)).size) ?_; intro g' cap' w4 K4 B4; have kb := (kb.up (.cells #[.bool l1, .string t1, .slice A1 m1 c1] 25)).belowB B4 (by omega); have kr := (kr.up (.cells #[.bool l1, .string t1, .slice A1 m1 c1] 25)).belowB B4 (by omega); have W4 : Bw w.heap.size w w4 := ⟨(W1.up (up_1 _ (.cells #[.bool l1, .string t1, .slice A1 m1 c1] 25))).1.trans (B4.mono (Nat.le_add_right _ 2)), Nat.le_trans (W1.up (up_1 _ (.cells #[.bool l1, .string t1, .slice A1 m1 c1] 25))).2 B4.size⟩; (first | have hk := (hk.bwk (Bw.of_up W1.2 (up_1 _ (.cells #[.bool l1, .string t1, .slice A1 m1 c1] 25)))).bwk ⟨B4.mono (Nat.le_add_right _ 2), W4.2⟩ | fail "T4"); have hs4 := Nat.le_trans (Nat.le_trans hs3 (up_1 w2 (.cells #[.bool l1, .string t1, .slice A1 m1 c1] 25)).size) B4.size; have q5 := kb.2.2.2.2.2; have q2 := kb.2.2.1; skip))
      all_goals go_wp2_with fail
      all_goals go_roundw
      all_goals (first | (show _ < _; simp [intOf]; omega) | (rw [← hT.out] at K4; exact ⟨i + 1, cap', some ⟨g', 0, none⟩, by omega, by go_num, kb.set2 _, kr.set2o (by omega) _, K4.put _ _ (by omega) _, hk.bwk ⟨(Below.refl _ _).setCell (p := ⟨w.heap.size, 2, none⟩) (Nat.le_refl _) _, by simp; omega⟩, by simp; omega, W4.set ⟨w.heap.size, 2, none⟩ (Nat.le_refl _) _⟩) | (simp [intOf]; omega))
    · have hL : k.take i = k := List.take_of_length_le (by have := Hk.out; omega)
      rw [hL] at KK
      have q0 := kb.1
      have q1 := kb.2.1
      have q2 := kb.2.2.1
      have k0 := kr.1
      have k1 := kr.2.1
      have k2 := kr.2.2.1
      have k3 := kr.2.2.2.1
      have k4 := kr.2.2.2.2.1
      have k5 := kr.2.2.2.2.2
      clear hL
      go_wp2
      have kp := kr.put (.bool l) (.string (ofL t)) (.slice A' i c')
      have p0 := kp.1
      have p1 := kp.2.1
      have p2 := kp.2.2.1
      refine bodyPost_ret (v := .agg #[.bool l, .string (ofL t), .slice A' i c']) (by simp [results, Tryd.results27, go_sem, p0, p1, p2]) rfl ?_
      exact clone_end KK ht W1.1
/-! ### At -/
theorem at_step {n : Nd} {p : List Int} {j : Nat} {z : Int} (h : p[j]? = some z) : at_ n (p.drop j) = match kid n z with
    | none => none
    | some x => at_ x (p.drop (j + 1)) := by
  obtain ⟨hj, hz⟩ := List.getElem?_eq_some_iff.1 h
  rw [List.drop_eq_getElem_cons hj, hz, at_]
  rfl
theorem at_none {T : Option Nd} {n : Nd} {p : List Int} {j : Nat} {z : Int} (hT : T = at_ n (p.drop j)) (h : p[j]? = some z) (hk : kid n z = none) : T = none := by rw [hT, at_step h, hk]
theorem at_some {T : Option Nd} {n x : Nd} {p : List Int} {j : Nat} {z : Int} (hT : T = at_ n (p.drop j)) (h : p[j]? = some z) (hk : kid n z = some x) : T = at_ x (p.drop (j + 1)) := by rw [hT, at_step h, hk]
/-- What At returns, in new memory. -/
def AtNew (R : Option Nd) (w : World) (e : Ending) (w' : World) : Prop :=
  ∃ (l : Bool) (t : ByteArray) (A : Option Addr) (m c er : Nat), e = .returned (.tuple #[.agg #[.bool l, .string t, .slice A m c], .int .i64 (er : Int)]) ∧ Below w.heap.size w w' ∧
    match R with
    | some x => er = 0 ∧ RdM (fun g => w.heap.size ≤ g) w' x (.agg #[.bool l, .string t, .slice A m c])
    | none => er = 6 ∧ l = false ∧ t = ⟨#[]⟩ ∧ A = none ∧ m = 0 ∧ c = 0
theorem AtNew.none {R : Option Nd} {w w' : World} (h : R = none) (hB : Below w.heap.size w w') : AtNew R w (.returned (.tuple #[.agg #[.bool false, .string ⟨#[]⟩, .slice none 0 0], .int .i64 6])) w' := by
  subst h
  exact ⟨_, _, _, _, _, 6, rfl, hB, rfl, rfl, rfl, rfl, rfl, rfl⟩
set_option maxRecDepth 20000 in
set_option maxHeartbeats 2000000 in
/-- At. -/
theorem at_n {w : World} {n : Nd} {v vp : Value} {p : List Int} (h : RdN w n v) (hp : RdZ w p vp) (hz : size n ≤ 1000000) : Calls Tryd.prog 17 #[v, vp] w (AtNew (at_ n p) w) := by
  obtain ⟨l, t, k⟩ := n
  have hin := (rdM_in _ _ h).mono (S' := fun g => g < w.heap.size) (fun g hg => hg.2)
  obtain ⟨A, m, c, rfl, -, -, -, -, -⟩ := h.named
  obtain ⟨Ap, P, cp, rfl, HP, hPc, hcp⟩ : ∃ Ap P cp, vp = .slice Ap P cp ∧ Hid (p.length = P) ∧ P ≤ cp ∧ cp ≤ 9223372036854775807 := by
    obtain ⟨a, b, e, h1, h2, _, _⟩ := hp
    exact ⟨a, _, b, e, rfl, h1, h2⟩
  obtain ⟨T, hT⟩ : ∃ T, at_ (.mk l t k) p = T := ⟨_, rfl⟩
  rw [hT]
  have HT : Hid (T = at_ (.mk l t k) (p.drop 0)) := by show _ = _; rw [List.drop_zero]; exact hT.symm
  have HZ := Lib.hid hz
  have HZP := Lib.hid hp
  have W0 : Bw w.heap.size w ((w.alloc (.cells #[.bool l, .string (ofL t), .slice A m c] 25)).alloc (.cells #[.bool false, .string ⟨#[]⟩, .slice none 0 0] 25)) := ⟨up_2 w _ _, (up_2 w _ _).size⟩
  have kb := (Bn.new w (.bool l) (.string (ofL t)) (.slice A m c) 25).up (.cells #[.bool false, .string ⟨#[]⟩, .slice none 0 0] 25)
  have kr := Bn.new (w.alloc (.cells #[.bool l, .string (ofL t), .slice A m c] 25)) (.bool false) (.string ⟨#[]⟩) (.slice none 0 0) 25
  rw [show (w.alloc (.cells #[.bool l, .string (ofL t), .slice A m c] 25)).heap.size = w.heap.size + 1 by simp] at kr
  have hM := hin.bw W0
  clear h hp hin hT hz
  go_enter Tryd.func17, Tryd.ntmps17
  go_wp2
  go_loopw [10] (fun y wr => ∃ (j : Nat) (lc : Bool) (tc : List UInt8) (kc : List Nd) (Ac : Option Addr) (mc cc : Nat), j ≤ P ∧ y = .int .i64 (j : Int) ∧ Bn wr w.heap.size (.bool lc) (.string (ofL tc)) (.slice Ac mc cc) ∧ Bn wr (w.heap.size + 1) (.bool false) (.string ⟨#[]⟩) (.slice none 0 0) ∧ RdM (fun g => g < w.heap.size) wr (.mk lc tc kc) (.agg #[.bool lc, .string (ofL tc), .slice Ac mc cc]) ∧ Hid (size (.mk lc tc kc) ≤ 1000000) ∧ Hid (T = at_ (.mk lc tc kc) (p.drop j)) ∧ Bw w.heap.size w wr) (fun y _ => P - (intOf y).toNat)
  case atStart => exact ⟨0, l, t, k, A, m, c, Nat.zero_le _, rfl, kb, kr, hM, HZ, HT, W0⟩
  case round =>
    clear kb kr hM HZ HT W0
    obtain ⟨j, lc, tc, kc, Ac, mc, cc, hj, rfl, kb, kr, hM, HZ, HT, W1⟩ := hrel
    have q0 := kb.1
    have q1 := kb.2.1
    have q2 := kb.2.2.1
    have q3 := kb.2.2.2.1
    have q4 := kb.2.2.2.2.1
    have q5 := kb.2.2.2.2.2
    have k0 := kr.1
    have k1 := kr.2.1
    have k2 := kr.2.2.1
    have k3 := kr.2.2.2.1
    have k4 := kr.2.2.2.2.1
    have k5 := kr.2.2.2.2.2
    by_cases hlt : j < P
    · obtain ⟨z, hz⟩ : ∃ z, p[j]? = some z := ⟨_, List.getElem?_eq_getElem (by have := HP.out; omega)⟩
      obtain ⟨gp, op, hAp, hcz, hz1, hz2⟩ : ∃ gp op, Ap = some ⟨gp, op, none⟩ ∧ wr.cell? ⟨gp, op + j, none⟩ = some (.int .i64 z) ∧ -9223372036854775808 ≤ z ∧ z ≤ 9223372036854775807 := by
        obtain ⟨a, b, e, h1, h2, h3, h4⟩ := HZP.out.below W1.1
        simp only [Value.slice.injEq] at e
        obtain ⟨gp, op, e1, e2⟩ := h4 (by have := HP.out; omega)
        have h5 := h3 z (List.mem_of_getElem? hz)
        exact ⟨gp, op, e.1.trans e1, e2 j z hz, h5.1, h5.2⟩
      subst hAp
      cases lc with
      | false =>
        have hN := Lib.hid (at_none HT.out hz (by rw [kid, if_neg (by simp)]))
        clear hz
        go_wp2
        have kp := kr.put (.bool false) (.string ⟨#[]⟩) (.slice none 0 0)
        have p0 := kp.1
        have p1 := kp.2.1
        have p2 := kp.2.2.1
        refine bodyPost_ret (v := .tuple #[.agg #[.bool false, .string ⟨#[]⟩, .slice none 0 0], .int .i64 6]) (by simp [results, Tryd.results17, go_sem, p0, p1, p2]) rfl (AtNew.none hN.out (up_put W1.1 (by omega) _ _ _))
      | true =>
        by_cases hneg : z < 0
        · have hN := Lib.hid (at_none HT.out hz (by rw [kid, if_neg (by simp; omega)]))
          clear hz
          go_wp2
          have kp := kr.put (.bool false) (.string ⟨#[]⟩) (.slice none 0 0)
          have p0 := kp.1
          have p1 := kp.2.1
          have p2 := kp.2.2.1
          refine bodyPost_ret (v := .tuple #[.agg #[.bool false, .string ⟨#[]⟩, .slice none 0 0], .int .i64 6]) (by simp [results, Tryd.results17, go_sem, p0, p1, p2]) rfl (AtNew.none hN.out (up_put W1.1 (by omega) _ _ _))
        · obtain ⟨i, rfl⟩ := Int.eq_ofNat_of_zero_le (by omega : 0 ≤ z)
          obtain ⟨A2, m2, c2, hag, Hm2, hmc2, hc2, ht2, hkc⟩ := hM.named
          simp only [Value.agg.injEq, Array.mk.injEq, List.cons.injEq, and_true, Value.slice.injEq, true_and] at hag
          obtain ⟨rfl, rfl, rfl⟩ := hag
          by_cases hout : mc ≤ i
          · have hN := Lib.hid (at_none HT.out hz (by rw [kid, if_pos (by simp)]; show kc[i]? = none; exact List.getElem?_eq_none (by have := Hm2.out; omega)))
            clear hz
            go_wp2
            have kp := kr.put (.bool false) (.string ⟨#[]⟩) (.slice none 0 0)
            have p0 := kp.1
            have p1 := kp.2.1
            have p2 := kp.2.2.1
            refine bodyPost_ret (v := .tuple #[.agg #[.bool false, .string ⟨#[]⟩, .slice none 0 0], .int .i64 6]) (by simp [results, Tryd.results17, go_sem, p0, p1, p2]) rfl (AtNew.none hN.out (up_put W1.1 (by omega) _ _ _))
          · obtain ⟨x, hx⟩ : ∃ x, kc[i]? = some x := ⟨_, List.getElem?_eq_getElem (by have := Hm2.out; omega)⟩
            have hN := Lib.hid (at_some HT.out hz (by rw [kid, if_pos (by simp)]; exact hx))
            have Hsx : Hid (size x ≤ 1000000) := by
              have h1 := sizeL_mem kc i x hx
              have h2 := HZ.out
              rw [size] at h2
              show _ ≤ _
              omega
            obtain ⟨gx, ox, u0, u1, u2, rfl, c0, c1, c2, hMx⟩ := hkc.at hx
            obtain ⟨lx, tx, kx⟩ := x
            obtain ⟨Ax, mx, cx, hag, -, -, -, -, -⟩ := hMx.named
            simp only [Value.agg.injEq, Array.mk.injEq, List.cons.injEq, and_true] at hag
            obtain ⟨rfl, rfl, rfl⟩ := hag
            clear hz hx
            go_wp2
            go_roundw
            case rel => exact ⟨j + 1, lx, tx, kx, Ax, mx, cx, by omega, by go_num, kb.put _ _ _, kr.ret (by omega) _ _ _, hMx.bw ⟨up_put (Below.refl _ _) (Nat.le_refl _) _ _ _, by simpa using W1.2⟩, Hsx, hN, (((W1.set ⟨w.heap.size, 0, none⟩ (Nat.le_refl _) _).set ⟨w.heap.size, 1, none⟩ (Nat.le_refl _) _).set ⟨w.heap.size, 2, none⟩ (Nat.le_refl _) _)⟩
            case measure => simp [intOf]; omega
    · have hN : Hid (T = some (.mk lc tc kc)) := by
        have h := HT.out
        rw [List.drop_eq_nil_of_le (by have := HP.out; omega), at_] at h
        exact h
      have HC := Lib.hid (clone_walk (.mk lc tc kc) _ wr hM.any HZ.out)
      go_wp2_with (first | (go_at_call 27; (with_reducible refine HC.out.mono ?_); rintro e w2 ⟨l1, t1, A1, m1, c1, rfl, hM1, bb⟩; have kr := kr.below bb; have W1 := W1.up bb; have k0 := kr.1; have k1 := kr.2.1; have k2 := kr.2.2.1; have k3 := kr.2.2.2.1; have k4 := kr.2.2.2.2.1; have k5 := kr.2.2.2.2.2; clear bb))
      have kp := kr.put (.bool l1) (.string t1) (.slice A1 m1 c1)
      have p0 := kp.1
      have p1 := kp.2.1
      have p2 := kp.2.2.1
      refine bodyPost_ret (v := .tuple #[.agg #[.bool l1, .string t1, .slice A1 m1 c1], .int .i64 0]) (by simp [results, Tryd.results17, go_sem, p0, p1, p2]) rfl ?_
      rw [hN.out]
      have hs5 : w.heap.size + 1 < wr.heap.size := by have := (Bn.lt (w := wr) (g := w.heap.size + 1) ⟨by assumption, by assumption, by assumption, by assumption, by assumption, by assumption⟩); omega
      exact ⟨l1, t1, A1, m1, c1, 0, rfl, up_put W1.1 (by omega) _ _ _, rfl, (((hM1.put _ _ (by show ¬ _ ≤ _; omega) _).put _ _ (by show ¬ _ ≤ _; omega) _).put _ _ (by show ¬ _ ≤ _; omega) _).mono (fun g (hg : wr.heap.size ≤ g) => (by omega : w.heap.size ≤ g))⟩
theorem at_c {w : World} {n : Nd} {v vp : Value} {p : List Int} (h : RdN w n v) (hp : RdZ w p vp) (hz : size n ≤ 1000000) : Calls Tryd.prog 17 #[v, vp] w (AtEnd (at_ n p) w) := by
  refine (at_n h hp hz).mono ?_
  rintro e w' ⟨l, t, A, m, c, er, rfl, hB, hR⟩
  refine ⟨l, t, A, m, c, er, rfl, hB, ?_⟩
  cases hx : at_ n p with
  | none => rw [hx] at hR; exact hR
  | some x => rw [hx] at hR; exact ⟨hR.1, hR.2.any⟩
end Go.Proofs.YtmklladpalcjpaaDoor
