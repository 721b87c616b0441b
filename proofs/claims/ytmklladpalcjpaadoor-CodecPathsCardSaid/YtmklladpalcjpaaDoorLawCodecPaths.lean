/-
  The walk of garmentlaw06.CodecPaths.
-/
import Derived.Test.YtmklladpalcjpaaDoorCodH
import Derived.Lib.AppendZeros
namespace Go.Proofs.YtmklladpalcjpaaDoor
open Go.RowKit Cod
set_option linter.unusedVariables false
/-! ### A string in another one -/
theorem occ_at {s t v y : List UInt8} (h : s = v ++ t ++ y) : (ofL s).extract v.length (v.length + t.length) = ofL t := by
  rw [extract_L, ofL_data, h, List.append_assoc, List.drop_left, List.take_left']
  rfl
set_option maxRecDepth 20000 in
set_option maxHeartbeats 1000000 in
theorem occurs_walk (S T : ByteArray) (k : Nat) (w : World) (hk : k + T.size ≤ S.size) (hS : S.size ≤ 20000) (he : S.extract k (k + T.size) = T) :
    Calls Tryd.prog 18 #[.string S, .string T] w fun e w' => e = .returned (.bool true) ∧ w = w' := by
  have He := Lib.hid he
  clear he
  go_enter Tryd.func18, Tryd.ntmps18
  go_wp2
  go_loopw [5] (fun y wr => ∃ i : Nat, i ≤ k ∧ y = .int .i64 (i : Int) ∧ w = wr) (fun y _ => k - (intOf y).toNat)
  case atStart => exact ⟨0, Nat.zero_le _, rfl, rfl⟩
  case round =>
    obtain ⟨i, hi, rfl, rfl⟩ := hrel
    have hle : i + T.size ≤ S.size := by omega
    by_cases hit : (S.extract i (i + T.size)).toList = T.toList
    · have hitb : ((S.extract i (i + T.size)).toList == T.toList) = true := beq_iff_eq.2 hit
      clear hit
      go_wp2
      go_ret
      exact ⟨rfl, rfl⟩
    · have hne : ¬ i = k := fun e => hit (by rw [e, He.out])
      have hitb : ((S.extract i (i + T.size)).toList == T.toList) = false := beq_eq_false_iff_ne.2 hit
      clear hit
      go_wp2
      go_roundw
      case rel => exact ⟨i + 1, by omega, by go_num, trivial⟩
      case measure => simp [intOf]; omega
/-! ### Two appends -/
theorem Nb.alloc {w : World} {g : Nat} {v0 v1 v2 : Value} (h : Nb w g v0 v1 v2) (o : Obj) : Nb (w.alloc o) g v0 v1 v2 := h.below (up_1 w o)
theorem Nb.newAt (w : World) (g : Nat) (h : g = w.heap.size) (v0 v1 v2 : Value) : Nb (w.alloc (.cells #[v0, v1, v2] 25)) g v0 v1 v2 := by subst h; exact Nb.new w _ _ _
theorem Nb.drew {w : World} {g : Nat} {v0 v1 v2 : Value} (h : Nb w g v0 v1 v2) : Nb w.drew g v0 v1 v2 := h
theorem Nb.bn {w : World} {g : Nat} {v0 v1 v2 : Value} (h : Nb w g v0 v1 v2) : Bn w g v0 v1 v2 := ⟨h.cells.1, h.cells.2.1, h.cells.2.2, Lib.frozen_of_heap h 0, Lib.frozen_of_heap h 1, Lib.frozen_of_heap h 2⟩
def Zv (z : Int) : Value := .int .i64 z
theorem info_int : (Tryd.prog.info? 3).map (fun i => (i.zero, i.size, i.bytes)) = some (some (.int .i64 0), 1, 8) := by kernel_rfl
theorem addr_add (g off j : Nat) : (⟨g, off, none⟩ : Addr).add j = ⟨g, off + j, none⟩ := by unfold Addr.add; split <;> simp_all
theorem app_run (ty : TypeId) (w : World) (B : Nat) (v : Value) (P : List Int) (vq : Value) (q : List Int) (hrow : w.ownsRow B 3 1 v P.length (P.map Zv)) (hq : RdZ w q vq) (hl : P.length + q.length ≤ 1000) (hB : B ≤ w.heap.size) (hne : ∃ g cap, v = .slice (some ⟨g, 0, none⟩) P.length cap ∧ P.length ≤ cap) :
    ∃ v' w', (Builtin.append_ #[37, 37] ty #[v, vq]).run Tryd.prog w = .ok v' w' ∧ w'.ownsRow B 3 1 v' (P ++ q).length ((P ++ q).map Zv) ∧ w.grownBy w' v.ownBlock ∧ (∃ g cap, v' = .slice (some ⟨g, 0, none⟩) (P ++ q).length cap ∧ (P ++ q).length ≤ cap) := by
  obtain ⟨i0, hi, hz0, hz1, hz2⟩ := info_parts info_int
  obtain ⟨A, c, rfl, h1, h2, h3, h4⟩ := hq
  cases q with
  | nil =>
    obtain ⟨g, cap, rfl, hcap⟩ := hne
    refine ⟨.slice (some ⟨g, 0, none⟩) P.length cap, w, ?_, by rw [List.append_nil]; exact hrow, ⟨rfl, rfl, rfl, Nat.le_refl _, fun _ _ _ => rfl⟩, g, cap, by rw [List.append_nil], by rw [List.append_nil]; exact hcap⟩
    cases A <;> simp [Builtin.append_, run_underlying Tryd.underlying37, sizeOf, typeInfo, hi, Builtin.lenOf, Builtin.firstCells, loadCells, loadCellsFrom, storeCells, hcap]
  | cons z q =>
    obtain ⟨g, off, rfl, hc⟩ := h4 (by simp)
    have hlm : ((z :: q).map Zv).length = (z :: q).length * 1 := by rw [List.length_map, Nat.mul_one]
    obtain ⟨v', w', hr, h5, h6, h7⟩ := run_append_own (P := Tryd.prog) w B 37 ty 3 i0 (.int .i64 0) 1 8 Tryd.underlying37 hi hz0 hz1 hz2 rfl (by decide) v P.length (P.map Zv) hrow ⟨g, off, none⟩ (z :: q).length c ((z :: q).map Zv) hlm
      (fun j u hj => by
        rw [List.getElem?_map] at hj
        cases hx : (z :: q)[j]? with
        | none => rw [hx] at hj; cases hj
        | some x => rw [hx] at hj; injection hj with hj; rw [← hj, addr_add]; exact hc j x hx)
      (fun u hu => by obtain ⟨x, _, rfl⟩ := List.mem_map.1 hu; rfl) (by unfold maxLen; omega) (by omega) hB
    refine ⟨v', w', hr, by rw [List.length_append, List.map_append]; exact h5, h6, ?_⟩
    rcases h5.2 with ⟨rfl, h0⟩ | ⟨g', cap, cur, rfl, _, _, hle, _⟩
    · simp at h0
    · exact ⟨g', cap, by rw [List.length_append], by rw [List.length_append]; exact hle⟩
/-- An append, at a step of a drawn region: what is below B stays, and so does every box of a tree. -/
theorem step_ap {B : Nat} {w : World} {ops : Array Oper} {o : Oper} {a : Act} {K : Act → World → Prop} {Q : Exit → Act → World → Prop} {E : Prop} (hgd : o.guard = none) (s x : Operand)
    (ho : o.op = .call { callee := .builtin .append, args := #[s, x], argTypes := #[37, 37] }) (v vq : Value) (P q : List Int) (hs : a.eval s = v) (hx : a.eval x = vq)
    (hrow : w.ownsRow B 3 1 v P.length (P.map Zv)) (hq : RdZ w q vq) (hl : P.length + q.length ≤ 1000) (hB : B ≤ w.heap.size) (hne : ∃ g cap, v = .slice (some ⟨g, 0, none⟩) P.length cap ∧ P.length ≤ cap)
    (h : ∀ g cap w', w'.ownsRow B 3 1 (.slice (some ⟨g, 0, none⟩) (P ++ q).length cap) (P ++ q).length ((P ++ q).map Zv) → Below B w w' → (∀ g v0 v1 v2, Nb w g v0 v1 v2 → Nb w' g v0 v1 v2) → (P ++ q).length ≤ cap → K (a.put o.dst (.slice (some ⟨g, 0, none⟩) (P ++ q).length cap)) w') :
    if Region.wanted o (yielded ops a.tmps) = true then Oper.wp Tryd.prog o a w K Q else E := by
  obtain ⟨v', w', hr, h1, h2, g, cap, rfl, hc⟩ := app_run o.type w B v P vq q hrow hq hl hB hne
  have hw : Region.wanted o (yielded ops a.tmps) = true := by simp [Region.wanted, hgd]
  rw [if_pos hw]
  refine Lib.wp_append_run w s x _ _ ho v vq hs hx _ w' hr (h g cap w' h1 (Below.grown (Below.refl B w) h2 hB (fun k hk => (hrow.lt k hk).1)) (fun g0 v0 v1 v2 hb => ?_) hc)
  have hne : v.ownBlock ≠ some g0 := Lib.ownBlock_ne hrow hb (by decide)
  exact (h2.block g0 hb.lt (fun e => hne e.symm)).trans hb
theorem step_ap1 {B : Nat} {w : World} {ops : Array Oper} {o : Oper} {a : Act} {K : Act → World → Prop} {Q : Exit → Act → World → Prop} {E : Prop} (hgd : o.guard = none) (s x : Operand)
    (ho : o.op = .call { callee := .builtin .append, args := #[s, x], argTypes := #[37, 37] }) (b : Nat) (vq : Value) (q : List Int) (hs : a.eval s = .slice (some ⟨b, 0, none⟩) 0 0) (hx : a.eval x = vq)
    (hrow : w.ownsRow B 3 1 (.slice (some ⟨b, 0, none⟩) 0 0) ([] : List Int).length (([] : List Int).map Zv)) (hq : RdZ w q vq) (hl : q.length ≤ 1000) (hB : B ≤ w.heap.size)
    (h : ∀ g cap w', w'.ownsRow B 3 1 (.slice (some ⟨g, 0, none⟩) q.length cap) q.length (q.map Zv) → Below B w w' → (∀ g v0 v1 v2, Nb w g v0 v1 v2 → Nb w' g v0 v1 v2) → q.length ≤ cap → K (a.put o.dst (.slice (some ⟨g, 0, none⟩) q.length cap)) w') :
    if Region.wanted o (yielded ops a.tmps) = true then Oper.wp Tryd.prog o a w K Q else E :=
  step_ap hgd s x ho _ vq [] q hs hx hrow hq (by simpa using hl) hB ⟨b, 0, rfl, Nat.le_refl _⟩ h
theorem row_empty (w : World) (B b : Nat) (hb : b = w.heap.size) (hB : B ≤ b) : (w.alloc (.cells #[] 3)).ownsRow B 3 1 (.slice (some ⟨b, 0, none⟩) 0 0) ([] : List Int).length (([] : List Int).map Zv) := by
  subst hb
  exact ⟨rfl, .inr ⟨w.heap.size, 0, #[], rfl, hB, heap_alloc_new w _, Nat.le_refl _, Nat.zero_le _, rfl, rfl⟩⟩
theorem RdZ.bw {B : Nat} {w w' : World} {p : List Int} {v : Value} (h : RdZ w p v) (hB : B = w.heap.size) (hb : Bw B w w') : RdZ w' p v := h.below (hB ▸ hb.1)
theorem RdZ.of_row {w : World} {B : Nat} {v : Value} {p : List Int} (h : w.ownsRow B 3 1 v p.length (p.map Zv)) (hb : ∀ z ∈ p, -9223372036854775808 ≤ z ∧ z ≤ 9223372036854775807) : RdZ w p v := by
  rcases h.2 with ⟨rfl, h0⟩ | ⟨g, cap, cur, rfl, _, hg, hle, hm, _, ht⟩
  · exact ⟨none, 0, by rw [h0], by omega, by omega, hb, fun h => by omega⟩
  · refine ⟨_, cap, rfl, hle, by unfold maxLen at hm; omega, hb, fun _ => ⟨g, 0, rfl, fun j z hj => ?_⟩⟩
    have hlt := (List.getElem?_eq_some_iff.1 hj).1
    rw [Nat.zero_add, cell_of_row _ _ _ _ _ (0, 0) hg, ← Array.getElem?_toList]
    have h3 : (cur.toList.take (p.length * 1))[j]? = (p.map Zv)[j]? := by rw [ht]
    rw [List.getElem?_take_of_lt (by omega), List.getElem?_map, hj] at h3
    exact h3

theorem step_ap2 {B : Nat} {w : World} {ops : Array Oper} {o : Oper} {a : Act} {K : Act → World → Prop} {Q : Exit → Act → World → Prop} {E : Prop} (hgd : o.guard = none) (s x : Operand)
    (ho : o.op = .call { callee := .builtin .append, args := #[s, x], argTypes := #[37, 37] }) (g0 c0 : Nat) (vq : Value) (P q : List Int) (hs : a.eval s = .slice (some ⟨g0, 0, none⟩) P.length c0) (hx : a.eval x = vq)
    (hrow : w.ownsRow B 3 1 (.slice (some ⟨g0, 0, none⟩) P.length c0) P.length (P.map Zv)) (hq : RdZ w q vq) (hl : P.length + q.length ≤ 1000) (hB : B ≤ w.heap.size) (hc : P.length ≤ c0) (hb : ∀ z ∈ P ++ q, -9223372036854775808 ≤ z ∧ z ≤ 9223372036854775807)
    (h : ∀ g cap w', RdZ w' (P ++ q) (.slice (some ⟨g, 0, none⟩) (P.length + q.length) cap) → Below B w w' → (∀ g v0 v1 v2, Nb w g v0 v1 v2 → Nb w' g v0 v1 v2) → K (a.put o.dst (.slice (some ⟨g, 0, none⟩) (P.length + q.length) cap)) w') :
    if Region.wanted o (yielded ops a.tmps) = true then Oper.wp Tryd.prog o a w K Q else E := by
  refine step_ap hgd s x ho _ vq P q hs hx hrow hq hl hB ⟨_, _, rfl, hc⟩ ?_
  intro g cap w' h1 h2 h3 h4
  have hr := RdZ.of_row h1 hb
  rw [List.length_append] at hr ⊢
  exact h g cap w' hr h2 h3
/-! ### The law -/
theorem Bw.of_below {B : Nat} {w w' : World} (h : Below B w w') (hs : B ≤ w.heap.size) : Bw B w w' := ⟨h, Nat.le_trans hs h.size⟩
theorem Bw.then {B : Nat} {a b c : World} (h : Bw B a b) (k : Below B b c) : Bw B a c := ⟨h.1.trans k, Nat.le_trans h.2 k.size⟩
/-- The node that At returned, new from B on. -/
def AtR (B : Nat) (R : Option Nd) (w : World) (l : Bool) (t : ByteArray) (A : Option Addr) (m c er : Nat) : Prop :=
  match R with
  | some x => er = 0 ∧ RdM (fun g => B ≤ g) w x (.agg #[.bool l, .string t, .slice A m c])
  | none => er = 6 ∧ l = false ∧ t = ⟨#[]⟩ ∧ A = none ∧ m = 0 ∧ c = 0
theorem at_open {R : Option Nd} {w w' : World} {e : Ending} (h : AtNew R w e w') : ∃ (l : Bool) (t : ByteArray) (A : Option Addr) (m c er : Nat), e = .returned (.tuple #[.agg #[.bool l, .string t, .slice A m c], .int .i64 (er : Int)]) ∧ Below w.heap.size w w' ∧ AtR w.heap.size R w' l t A m c er := by
  obtain ⟨l, t, A, m, c, er, he, hB, hR⟩ := h
  refine ⟨l, t, A, m, c, er, he, hB, ?_⟩
  cases R with
  | none => exact hR
  | some x => exact hR
/-- What the region with both appends leaves. -/
def PaM (W : World) (R : Option Nd) (a e : Value) (wx : World) : Prop := ∃ (g : Nat) (l : Bool) (t : ByteArray) (A : Option Addr) (m c er : Nat), a = .pointer (some ⟨g, 0, none⟩) ∧ e = .int .i64 (er : Int) ∧ Bn wx g (.bool l) (.string t) (.slice A m c) ∧ W.heap.size ≤ g ∧ Bw W.heap.size W wx ∧ AtR 0 R wx l t A m c er
theorem AtR.any {B : Nat} {R : Option Nd} {w : World} {l : Bool} {t : ByteArray} {A : Option Addr} {m c er : Nat} (h : AtR B R w l t A m c er) : AtR 0 R w l t A m c er := by
  cases R with
  | none => exact h
  | some x => exact ⟨h.1, h.2.mono (fun g _ => Nat.zero_le g)⟩
theorem AtR.below {B : Nat} {R : Option Nd} {w w' : World} {l : Bool} {t : ByteArray} {A : Option Addr} {m c er : Nat} (h : AtR B R w l t A m c er) (hb : Below w.heap.size w w') : AtR B R w' l t A m c er := by
  cases R with
  | none => exact h
  | some x => exact ⟨h.1, h.2.below hb⟩
theorem AtR.put {B g : Nat} {R : Option Nd} {w : World} {l : Bool} {t : ByteArray} {A : Option Addr} {m c er : Nat} (h : AtR B R w l t A m c er) (hg : g < B) (i : Nat) (u : Value) : AtR B R (w.setCell ⟨g, i, none⟩ u) l t A m c er := by
  cases R with
  | none => exact h
  | some x => exact ⟨h.1, h.2.put _ _ (by show ¬ _ ≤ _; omega) _⟩
theorem pa_store {W w : World} {R : Option Nd} {g K : Nat} {l : Bool} {t : ByteArray} {A : Option Addr} {m c er : Nat} {z0 z1 z2 : Value} (hs : Bw W.heap.size W w) (p1 : Nb w g z0 z1 z2) (hg : W.heap.size ≤ g) (hK : g < K) (hR : AtR K R w l t A m c er) :
    PaM W R (.pointer (some ⟨g, 0, none⟩)) (.int .i64 (er : Int)) (((w.setCell ⟨g, 0, none⟩ (.bool l)).setCell ⟨g, 1, none⟩ (.string t)).setCell ⟨g, 2, none⟩ (.slice A m c)) :=
  ⟨g, l, t, A, m, c, er, rfl, rfl, p1.bn.put _ _ _, hg, ((hs.set ⟨g, 0, none⟩ hg _).set ⟨g, 1, none⟩ hg _).set ⟨g, 2, none⟩ hg _, (((hR.put hK 0 _).put hK 1 _).put hK 2 _).any⟩
theorem pa_new {W w : World} {R : Option Nd} {K : Nat} {l : Bool} {t : ByteArray} {A : Option Addr} {m c er : Nat} (hs : Bw W.heap.size W w) (hR : AtR K R w l t A m c er) :
    PaM W R (.pointer (some ⟨w.heap.size, 0, none⟩)) (.int .i64 (er : Int)) (w.alloc (.cells #[.bool l, .string t, .slice A m c] 25)) :=
  ⟨w.heap.size, l, t, A, m, c, er, rfl, rfl, Bn.new w _ _ _ _, hs.2, hs.alloc _, (hR.below (up_1 w _)).any⟩
set_option maxRecDepth 20000 in
set_option maxHeartbeats 4000000 in
theorem lawcodecpaths_walk (w : World) (x : Nd) (v : Value) (hx : RdN w x v) (p : List Int) (vp : Value) (hp : RdZ w p vp) (q : List Int) (vq : Value) (hq : RdZ w q vq) (ht : Tab w) : Calls Tryd.prog 9 #[v, vp, vq] w (BoolAnd true w) := by
  have B0 := Below.refl w.heap.size w
  have HT := Lib.hid ht
  clear ht
  obtain ⟨l, t, k⟩ := x
  obtain ⟨A, m, c, rfl, -, -, -, -, -⟩ := hx.named
  have U := up_1 w (.cells #[.bool l, .string (ofL t), .slice A m c] 25)
  have hx := hx.below U
  have hp := hp.below U
  have hq := hq.below U
  have HT := Lib.hid (HT.out.below U)
  have B0 := B0.alloc B0.size (.cells #[.bool l, .string (ofL t), .slice A m c] 25)
  have qa := Bn.new w (.bool l) (.string (ofL t)) (.slice A m c) 25
  have qa_0 := qa.1
  have qa_1 := qa.2.1
  have qa_2 := qa.2.2.1
  have HW := Lib.hid (fun v w h => size_walk (.mk l t k) 5000 5000 v w h (by omega) rfl)
  obtain ⟨sz, hsz⟩ : ∃ sz, min (size (.mk l t k)) (5000 + 1) = sz := ⟨_, rfl⟩
  rw [hsz] at HW
  obtain ⟨Ap, P, cp, rfl, HP⟩ : ∃ Ap P cp, vp = .slice Ap P cp ∧ Hid (p.length = P) := by
    obtain ⟨a, b, e, _⟩ := hp
    exact ⟨a, _, b, e, rfl⟩
  obtain ⟨Aq, Q, cq, rfl, HQ⟩ : ∃ Aq Q cq, vq = .slice Aq Q cq ∧ Hid (q.length = Q) := by
    obtain ⟨a, b, e, _⟩ := hq
    exact ⟨a, _, b, e, rfl⟩
  clear U
  by_cases hbig : 5000 < sz
  · clear hsz
    go_enter Tryd.func9, Tryd.ntmps9
    go_wp2_with (first | (go_at_call 16; (with_reducible refine (HW.out _ _ hx).mono ?_); rintro e w1 ⟨rfl, bb⟩; have hx := hx.below bb; have hp := hp.below bb; have hq := hq.below bb; have qa := qa.below bb; have qa_0 := qa.1; have qa_1 := qa.2.1; have qa_2 := qa.2.2.1; have HT := Lib.hid (HT.out.below bb); have B0 := B0.trans (bb.mono B0.size); clear bb) | (go_at_call 10; (with_reducible refine (example_walk _ HT.out).mono ?_); rintro e w9 ⟨rfl, bb⟩; have HT := Lib.hid (HT.out.below bb); have B0 := B0.trans (bb.mono B0.size); clear bb))
    all_goals go_ret
    all_goals exact ⟨rfl, B0⟩
  · by_cases hP : 20 < P
    · clear hsz
      go_enter Tryd.func9, Tryd.ntmps9
      go_wp2_with (first | (go_at_call 16; (with_reducible refine (HW.out _ _ hx).mono ?_); rintro e w1 ⟨rfl, bb⟩; have hx := hx.below bb; have hp := hp.below bb; have hq := hq.below bb; have qa := qa.below bb; have qa_0 := qa.1; have qa_1 := qa.2.1; have qa_2 := qa.2.2.1; have HT := Lib.hid (HT.out.below bb); have B0 := B0.trans (bb.mono B0.size); clear bb) | (go_at_call 10; (with_reducible refine (example_walk _ HT.out).mono ?_); rintro e w9 ⟨rfl, bb⟩; have HT := Lib.hid (HT.out.below bb); have B0 := B0.trans (bb.mono B0.size); clear bb))
      all_goals go_ret
      all_goals exact ⟨rfl, B0⟩
    · by_cases hQ : 20 < Q
      · clear hsz
        go_enter Tryd.func9, Tryd.ntmps9
        go_wp2_with (first | (go_at_call 16; (with_reducible refine (HW.out _ _ hx).mono ?_); rintro e w1 ⟨rfl, bb⟩; have hx := hx.below bb; have hp := hp.below bb; have hq := hq.below bb; have qa := qa.below bb; have qa_0 := qa.1; have qa_1 := qa.2.1; have qa_2 := qa.2.2.1; have HT := Lib.hid (HT.out.below bb); have B0 := B0.trans (bb.mono B0.size); clear bb) | (go_at_call 10; (with_reducible refine (example_walk _ HT.out).mono ?_); rintro e w9 ⟨rfl, bb⟩; have HT := Lib.hid (HT.out.below bb); have B0 := B0.trans (bb.mono B0.size); clear bb))
        all_goals go_ret
        all_goals exact ⟨rfl, B0⟩
      · have hz5 : size (.mk l t k) ≤ 5000 := by omega
        have Hz5 := Lib.hid hz5
        clear hsz hz5
        go_enter Tryd.func9, Tryd.ntmps9
        go_wp2_with (first | (go_at_call 16; (with_reducible refine (HW.out _ _ hx).mono ?_); rintro e w1 ⟨rfl, bb⟩; have hx := hx.below bb; have hp := hp.below bb; have hq := hq.below bb; have qa := qa.below bb; have qa_0 := qa.1; have qa_1 := qa.2.1; have qa_2 := qa.2.2.1; have HT := Lib.hid (HT.out.below bb); have B0 := B0.trans (bb.mono B0.size); clear bb))
        have hxB : RdM (fun g => g < w1.heap.size) w1 (.mk l t k) (.agg #[.bool l, .string (ofL t), .slice A m c]) := (rdM_in _ _ hx).mono (fun g hg => hg.2)
        have hs : Bw w1.heap.size w1 w1 := ⟨Below.refl _ _, Nat.le_refl _⟩
        have HS : Hid (∀ w', Bw w1.heap.size w1 w' → w'.cell? ⟨w.heap.size, 0, none⟩ = some (.bool l) ∧ w'.cell? ⟨w.heap.size, 1, none⟩ = some (.string (ofL t)) ∧ w'.cell? ⟨w.heap.size, 2, none⟩ = some (.slice A m c)) := by
          intro w' hb
          have e := qa.bw hb qa.lt
          exact ⟨e.1, e.2.1, e.2.2.1⟩
        have hpqb : ∀ z ∈ p ++ q, -9223372036854775808 ≤ z ∧ z ≤ 9223372036854775807 := by
          obtain ⟨_, _, _, _, _, h1, _⟩ := hp
          obtain ⟨_, _, _, _, _, h2, _⟩ := hq
          intro z hz
          rcases List.mem_append.1 hz with h | h
          · exact h1 z h
          · exact h2 z h
        obtain ⟨R, hR⟩ : ∃ R, at_ (.mk l t k) (p ++ q) = R := ⟨_, rfl⟩
        have HR := Lib.hid hR
        clear hR
        go_cut [7, 8] (fun a e wx => PaM w1 R a e wx)
        case first =>
          have hz6 : size (.mk l t k) ≤ 1000000 := Nat.le_trans Hz5.out (by omega)
          have hpl : p.length ≤ 20 := by have := HP.out; omega
          have hql : q.length ≤ 20 := by have := HQ.out; omega
          clear qa qa_0 qa_1 qa_2 HW
          go_region_held3 (fun w' => w'.cell? ⟨w.heap.size, 0, none⟩ = some (.bool l) ∧ w'.cell? ⟨w.heap.size, 1, none⟩ = some (.string (ofL t)) ∧ w'.cell? ⟨w.heap.size, 2, none⟩ = some (.slice A m c))
            (first | exact HS.out _ hs | (refine HS.out _ ?_; repeat (first | exact hs | refine Bw.drew ?_ | refine Bw.alloc ?_ _ | refine Bw.set ?_ _ (by first | omega | (simp; done) | (simp; omega)) _)))
            (first
            | (refine step_ap1 (B := w1.heap.size) rfl (.tmp 33) (.tmp 34) rfl _ (.slice Ap P cp) p rfl rfl ?_ ?_ (by omega) ?_ ?_; (· (first | exact row_empty w1 w1.heap.size w1.heap.size rfl (Nat.le_refl _) | exact (row_empty w1 w1.heap.size w1.heap.size rfl (Nat.le_refl _)).alloc _ | exact row_empty (w1.alloc _) w1.heap.size (w1.heap.size + 1) (by simp) (by omega))); (· exact RdZ.bw hp rfl (by repeat (first | with_reducible exact hs | with_reducible refine Bw.drew ?_ | with_reducible refine Bw.alloc ?_ _))); (· exact (show Bw w1.heap.size w1 _ from (by repeat (first | with_reducible exact hs | with_reducible refine Bw.drew ?_ | with_reducible refine Bw.alloc ?_ _))).2); intro g5 cap5 w5 hr5 bb5 hn5 hc5; (first | have p1 := hn5 _ _ _ _ ((Nb.newAt (w1.alloc _) (w1.heap.size + 1) (by simp) (.bool false) (.string ⟨#[]⟩) (.slice none 0 0)).drew) | have p1 := hn5 _ _ _ _ (((Nb.newAt w1 w1.heap.size rfl (.bool false) (.string ⟨#[]⟩) (.slice none 0 0)).alloc _).drew) | skip); have hs : Bw w1.heap.size w1 w5 := Bw.then (by repeat (first | with_reducible exact hs | with_reducible refine Bw.drew ?_ | with_reducible refine Bw.alloc ?_ _)) bb5; have s5 := hs.2; clear bb5 hn5)
            | (refine step_ap2 (B := w1.heap.size) rfl (.tmp 35) (.tmp 36) rfl g5 cap5 (.slice Aq Q cq) p q rfl rfl ?_ ?_ (by omega) ?_ hc5 hpqb ?_; (· (first | with_reducible exact hr5 | with_reducible exact hr5.alloc _)); (· exact RdZ.bw hq rfl (by repeat (first | with_reducible exact hs | with_reducible refine Bw.drew ?_ | with_reducible refine Bw.alloc ?_ _))); (· exact (show Bw w1.heap.size w1 _ from (by repeat (first | with_reducible exact hs | with_reducible refine Bw.drew ?_ | with_reducible refine Bw.alloc ?_ _))).2); intro g6 cap6 w6 hpq bb6 hn6; (first | have p1 := hn6 _ _ _ _ p1 | have p1 := hn6 _ _ _ _ (Nb.newAt w5 w5.heap.size rfl (.bool false) (.string ⟨#[]⟩) (.slice none 0 0)) | skip); have hs : Bw w1.heap.size w1 w6 := Bw.then (by repeat (first | with_reducible exact hs | with_reducible refine Bw.drew ?_ | with_reducible refine Bw.alloc ?_ _)) bb6; have s6 := hs.2; clear bb6 hn6)
            | (go_at_call 17; (first | (with_reducible refine (at_n ((hxB.bw hs).any) hpq hz6).mono ?_) | (with_reducible refine (at_n ((hxB.bw (hs.alloc _)).any) (hpq.below (up_1 _ _)) hz6).mono ?_)); rw [HR.out]; rintro e w7 hN7; obtain ⟨l7, t7, A7, m7, c7, er7, rfl, bb, hR7⟩ := at_open hN7; (first | have p1l := p1.lt | skip); (first | (have p1 := (Nb.newAt w6 w6.heap.size rfl (.bool false) (.string ⟨#[]⟩) (.slice none 0 0)).below bb) | have p1 := p1.below bb | skip); (first | have hs := hs.up bb | have hs := (hs.alloc _).up bb); (try (obtain ⟨p1_0, p1_1, p1_2⟩ := p1.cells; obtain ⟨_, _, _, p1_3, p1_4, p1_5⟩ := p1.bn)); clear bb))
          all_goals go_wp2_with fail
          all_goals go_meet
          all_goals (first | with_reducible exact pa_new hs hR7 | with_reducible exact pa_store hs p1 (by omega) p1l hR7 | with_reducible exact pa_store hs p1 (by omega) (by simp) hR7)
        case rest =>
          obtain ⟨ga, la, ta, Aa, ma, ca, ea, rfl, rfl, qb, hga, hw, hRa⟩ := hcut
          have hx := hx.below hw.1
          have hp := hp.below hw.1
          have hq := hq.below hw.1
          have qa := qa.below hw.1
          have HT := Lib.hid (HT.out.below hw.1)
          have B0 := B0.trans (hw.1.mono B0.size)
          have hz6 : size (.mk l t k) ≤ 1000000 := Nat.le_trans Hz5.out (by omega)
          have Hz21 : Hid (size (.mk l t k) ≤ 21000) := Nat.le_trans Hz5.out (by omega)
          have qa_0 := qa.1
          have qa_1 := qa.2.1
          have qa_2 := qa.2.2.1
          have qb_0 := qb.1
          have qb_1 := qb.2.1
          have qb_2 := qb.2.2.1
          clear hw hxB hs HS hpqb HW
          have hap := at_append p q (.mk l t k)
          rw [HR.out] at hap
          clear HR
          cases h1 : at_ (.mk l t k) p with
          | none =>
            rw [h1] at hap
            have hap : R = none := hap
            subst hap
            obtain ⟨rfl, rfl, rfl, rfl, rfl, rfl⟩ := hRa
            have H1 := Lib.hid h1
            clear h1
            go_wp2_with (first | (go_at_call 17; (with_reducible refine (at_c hx hp hz6).mono ?_); rw [H1.out]; rintro e w2 ⟨l2, t2, A2, m2, c2, er2, rfl, bb, hN2⟩; obtain ⟨rfl, rfl, rfl, rfl, rfl, rfl⟩ := hN2; have bb := bb.alloc bb.size (.cells #[.bool false, .string ⟨#[]⟩, .slice none 0 0] 25); have HT := Lib.hid (HT.out.below bb); have B0 := B0.trans (bb.mono B0.size); clear bb) | (go_at_call 10; (with_reducible refine (example_walk _ HT.out).mono ?_); rintro e w9 ⟨rfl, bb⟩; have HT := Lib.hid (HT.out.below bb); have B0 := B0.trans (bb.mono B0.size); clear bb))
            all_goals go_ret
            all_goals exact ⟨rfl, B0⟩
          | some y =>
            rw [h1] at hap
            have hap : R = at_ y q := hap
            have hzy : size y ≤ 5000 := Nat.le_trans (at_size p _ y h1) Hz5.out
            have hzy6 : size y ≤ 1000000 := by omega
            have Hzy21 : Hid (size y ≤ 21000) := Nat.le_trans hzy (by omega)
            have H1 := Lib.hid h1
            clear h1 hzy
            cases h2 : at_ y q with
            | none =>
              rw [h2] at hap
              subst hap
              obtain ⟨rfl, rfl, rfl, rfl, rfl, rfl⟩ := hRa
              have H2 := Lib.hid h2
              clear h2
              cases hE : encd (.mk l t k) with
              | error b =>
                have hbb : ((b : Int) != 0) = true := by have := encd_bad hE; simp; omega
                have HE := Lib.hid hE
                clear hE
                go_wp2_with (first | (go_at_call 17; (with_reducible refine (at_c hx hp hz6).mono ?_); rw [H1.out]; rintro e w2 ⟨l2, t2, A2, m2, c2, er2, rfl, bb, hN2⟩; obtain ⟨he2, hy⟩ := hN2; subst he2; have hy := hy.below (up_1 w2 (.cells #[.bool l2, .string t2, .slice A2 m2 c2] 25)); have bb := bb.alloc bb.size (.cells #[.bool l2, .string t2, .slice A2 m2 c2] 25); have qc := Bn.new w2 (.bool l2) (.string t2) (.slice A2 m2 c2) 25; have hx := hx.below bb; have hq := hq.below bb; have qa := qa.below bb; have qb := qb.below bb; have qa_0 := qa.1; have qa_1 := qa.2.1; have qa_2 := qa.2.2.1; have qb_0 := qb.1; have qb_1 := qb.2.1; have qb_2 := qb.2.2.1; have qc_0 := qc.1; have qc_1 := qc.2.1; have qc_2 := qc.2.2.1; have HT := Lib.hid (HT.out.below bb); have B0 := B0.trans (bb.mono B0.size); clear bb) | (go_at_call 17; (with_reducible refine (at_c hy hq hzy6).mono ?_); rw [H2.out]; rintro e w3 ⟨l3, t3, A3, m3, c3, er3, rfl, bb, hN3⟩; obtain ⟨rfl, rfl, rfl, rfl, rfl, rfl⟩ := hN3; have bb := bb.alloc bb.size (.cells #[.bool false, .string ⟨#[]⟩, .slice none 0 0] 25); have qd := Bn.new w3 (.bool false) (.string ⟨#[]⟩) (.slice none 0 0) 25; have hA := RdM.zero (fun _ => True) (w3.alloc (.cells #[.bool false, .string ⟨#[]⟩, .slice none 0 0] 25)); have hC := RdM.zero (fun _ => True) (w3.alloc (.cells #[.bool false, .string ⟨#[]⟩, .slice none 0 0] 25)); have hx := hx.below bb; have hy := hy.below bb; have qa := qa.below bb; have qb := qb.below bb; have qc := qc.below bb; have qa_0 := qa.1; have qa_1 := qa.2.1; have qa_2 := qa.2.2.1; have qb_0 := qb.1; have qb_1 := qb.2.1; have qb_2 := qb.2.2.1; have qc_0 := qc.1; have qc_1 := qc.2.1; have qc_2 := qc.2.2.1; have qd_0 := qd.1; have qd_1 := qd.2.1; have qd_2 := qd.2.2.1; have HT := Lib.hid (HT.out.below bb); have B0 := B0.trans (bb.mono B0.size); clear bb) | (go_at_call 13; (with_reducible refine (same_yes zeroN zeroN _ _ _ hA hC).mono ?_); rw [eqN_yes rfl]; rintro e w4 ⟨rfl, bb⟩; have hx := hx.below bb; have hy := hy.below bb; have qa := qa.below bb; have qc := qc.below bb; have qa_0 := qa.1; have qa_1 := qa.2.1; have qa_2 := qa.2.2.1; have qc_0 := qc.1; have qc_1 := qc.2.1; have qc_2 := qc.2.2.1; have HT := Lib.hid (HT.out.below bb); have B0 := B0.trans (bb.mono B0.size); clear bb) | (go_at_call 15; (with_reducible refine (encode_c hx Hz21.out HT.out).mono ?_); rw [HE.out]; rintro e w5 ⟨te, er5, rfl, bb, he5, hte⟩; subst he5; subst hte; have hy := hy.below bb; have qc := qc.below bb; have qc_0 := qc.1; have qc_1 := qc.2.1; have qc_2 := qc.2.2.1; have HT := Lib.hid (HT.out.below bb); have B0 := B0.trans (bb.mono B0.size); clear bb) | (go_at_call 15; (with_reducible refine (encode_c hy Hzy21.out HT.out).mono ?_); rintro e w6 ⟨tu, er6, rfl, bb, _⟩; have HT := Lib.hid (HT.out.below bb); have B0 := B0.trans (bb.mono B0.size); clear bb) | (go_at_call 10; (with_reducible refine (example_walk _ HT.out).mono ?_); rintro e w9 ⟨rfl, bb⟩; have HT := Lib.hid (HT.out.below bb); have B0 := B0.trans (bb.mono B0.size); clear bb))
                all_goals go_ret
                all_goals exact ⟨rfl, B0⟩
              | ok s =>
                obtain ⟨u, vv, yy, hU, hsu⟩ := path_occurs hE H1.out
                have hlen := (encd_ok hE).2
                obtain ⟨S, hS⟩ : ∃ S, S = ofL s := ⟨_, rfl⟩
                obtain ⟨V, hV⟩ : ∃ V, V = ofL u := ⟨_, rfl⟩
                obtain ⟨kk, hkk⟩ : ∃ kk, kk = vv.length := ⟨_, rfl⟩
                have hSs : S.size = s.length := by rw [hS, ofL_size]
                have hVs : V.size = u.length := by rw [hV, ofL_size]
                have HK : Hid (S.extract kk (kk + V.size) = V) := by
                  show _ = _
                  rw [hVs, hS, hV, hkk]
                  exact occ_at hsu
                have hls := congrArg List.length hsu
                rw [List.length_append, List.length_append] at hls
                have hk1 : kk + V.size ≤ S.size := by omega
                have hk2 : S.size ≤ 20000 := by omega
                have HE := Lib.hid hE
                have HU := Lib.hid hU
                have HS := Lib.hid hS
                have HV := Lib.hid hV
                clear hE hU hS hV hsu hls hkk hlen hSs hVs
                go_wp2_with (first | (go_at_call 17; (with_reducible refine (at_c hx hp hz6).mono ?_); rw [H1.out]; rintro e w2 ⟨l2, t2, A2, m2, c2, er2, rfl, bb, hN2⟩; obtain ⟨he2, hy⟩ := hN2; subst he2; have hy := hy.below (up_1 w2 (.cells #[.bool l2, .string t2, .slice A2 m2 c2] 25)); have bb := bb.alloc bb.size (.cells #[.bool l2, .string t2, .slice A2 m2 c2] 25); have qc := Bn.new w2 (.bool l2) (.string t2) (.slice A2 m2 c2) 25; have hx := hx.below bb; have hq := hq.below bb; have qa := qa.below bb; have qb := qb.below bb; have qa_0 := qa.1; have qa_1 := qa.2.1; have qa_2 := qa.2.2.1; have qb_0 := qb.1; have qb_1 := qb.2.1; have qb_2 := qb.2.2.1; have qc_0 := qc.1; have qc_1 := qc.2.1; have qc_2 := qc.2.2.1; have HT := Lib.hid (HT.out.below bb); have B0 := B0.trans (bb.mono B0.size); clear bb) | (go_at_call 17; (with_reducible refine (at_c hy hq hzy6).mono ?_); rw [H2.out]; rintro e w3 ⟨l3, t3, A3, m3, c3, er3, rfl, bb, hN3⟩; obtain ⟨rfl, rfl, rfl, rfl, rfl, rfl⟩ := hN3; have bb := bb.alloc bb.size (.cells #[.bool false, .string ⟨#[]⟩, .slice none 0 0] 25); have qd := Bn.new w3 (.bool false) (.string ⟨#[]⟩) (.slice none 0 0) 25; have hA := RdM.zero (fun _ => True) (w3.alloc (.cells #[.bool false, .string ⟨#[]⟩, .slice none 0 0] 25)); have hC := RdM.zero (fun _ => True) (w3.alloc (.cells #[.bool false, .string ⟨#[]⟩, .slice none 0 0] 25)); have hx := hx.below bb; have hy := hy.below bb; have qa := qa.below bb; have qb := qb.below bb; have qc := qc.below bb; have qa_0 := qa.1; have qa_1 := qa.2.1; have qa_2 := qa.2.2.1; have qb_0 := qb.1; have qb_1 := qb.2.1; have qb_2 := qb.2.2.1; have qc_0 := qc.1; have qc_1 := qc.2.1; have qc_2 := qc.2.2.1; have qd_0 := qd.1; have qd_1 := qd.2.1; have qd_2 := qd.2.2.1; have HT := Lib.hid (HT.out.below bb); have B0 := B0.trans (bb.mono B0.size); clear bb) | (go_at_call 13; (with_reducible refine (same_yes zeroN zeroN _ _ _ hA hC).mono ?_); rw [eqN_yes rfl]; rintro e w4 ⟨rfl, bb⟩; have hx := hx.below bb; have hy := hy.below bb; have qa := qa.below bb; have qc := qc.below bb; have qa_0 := qa.1; have qa_1 := qa.2.1; have qa_2 := qa.2.2.1; have qc_0 := qc.1; have qc_1 := qc.2.1; have qc_2 := qc.2.2.1; have HT := Lib.hid (HT.out.below bb); have B0 := B0.trans (bb.mono B0.size); clear bb) | (go_at_call 15; (with_reducible refine (encode_c hx Hz21.out HT.out).mono ?_); rw [HE.out]; rintro e w5 ⟨te, er5, rfl, bb, he5, hte⟩; subst he5; rw [← HS.out] at hte; have hte2 := hte; clear hte; subst hte2; have hy := hy.below bb; have qc := qc.below bb; have qc_0 := qc.1; have qc_1 := qc.2.1; have qc_2 := qc.2.2.1; have HT := Lib.hid (HT.out.below bb); have B0 := B0.trans (bb.mono B0.size); clear bb) | (go_at_call 15; (with_reducible refine (encode_c hy Hzy21.out HT.out).mono ?_); rw [HU.out]; rintro e w6 ⟨tu, er6, rfl, bb, he6, htu⟩; subst he6; rw [← HV.out] at htu; have htu2 := htu; clear htu; subst htu2; have HT := Lib.hid (HT.out.below bb); have B0 := B0.trans (bb.mono B0.size); clear bb) | (go_at_call 18; (with_reducible refine (occurs_walk _ _ kk _ hk1 hk2 HK.out).mono ?_); rintro e w7 ⟨rfl, rfl⟩) | (go_at_call 10; (with_reducible refine (example_walk _ HT.out).mono ?_); rintro e w9 ⟨rfl, bb⟩; have HT := Lib.hid (HT.out.below bb); have B0 := B0.trans (bb.mono B0.size); clear bb))
                all_goals go_ret
                all_goals exact ⟨rfl, B0⟩
            | some zz =>
              rw [h2] at hap
              subst hap
              obtain ⟨he, hA⟩ := hRa
              subst he
              have hA := hA.any
              have H2 := Lib.hid h2
              clear h2
              cases hE : encd (.mk l t k) with
              | error b =>
                have hbb : ((b : Int) != 0) = true := by have := encd_bad hE; simp; omega
                have HE := Lib.hid hE
                clear hE
                go_wp2_with (first | (go_at_call 17; (with_reducible refine (at_c hx hp hz6).mono ?_); rw [H1.out]; rintro e w2 ⟨l2, t2, A2, m2, c2, er2, rfl, bb, hN2⟩; obtain ⟨he2, hy⟩ := hN2; subst he2; have hy := hy.below (up_1 w2 (.cells #[.bool l2, .string t2, .slice A2 m2 c2] 25)); have bb := bb.alloc bb.size (.cells #[.bool l2, .string t2, .slice A2 m2 c2] 25); have qc := Bn.new w2 (.bool l2) (.string t2) (.slice A2 m2 c2) 25; have hx := hx.below bb; have hq := hq.below bb; have qa := qa.below bb; have qb := qb.below bb; have hA := hA.below bb; have qa_0 := qa.1; have qa_1 := qa.2.1; have qa_2 := qa.2.2.1; have qb_0 := qb.1; have qb_1 := qb.2.1; have qb_2 := qb.2.2.1; have qc_0 := qc.1; have qc_1 := qc.2.1; have qc_2 := qc.2.2.1; have HT := Lib.hid (HT.out.below bb); have B0 := B0.trans (bb.mono B0.size); clear bb) | (go_at_call 17; (with_reducible refine (at_c hy hq hzy6).mono ?_); rw [H2.out]; rintro e w3 ⟨l3, t3, A3, m3, c3, er3, rfl, bb, hN3⟩; obtain ⟨he3, hC⟩ := hN3; subst he3; have hC := hC.below (up_1 w3 (.cells #[.bool l3, .string t3, .slice A3 m3 c3] 25)); have bb := bb.alloc bb.size (.cells #[.bool l3, .string t3, .slice A3 m3 c3] 25); have qd := Bn.new w3 (.bool l3) (.string t3) (.slice A3 m3 c3) 25; have hx := hx.below bb; have hy := hy.below bb; have hA := hA.below bb; have qa := qa.below bb; have qb := qb.below bb; have qc := qc.below bb; have qa_0 := qa.1; have qa_1 := qa.2.1; have qa_2 := qa.2.2.1; have qb_0 := qb.1; have qb_1 := qb.2.1; have qb_2 := qb.2.2.1; have qc_0 := qc.1; have qc_1 := qc.2.1; have qc_2 := qc.2.2.1; have qd_0 := qd.1; have qd_1 := qd.2.1; have qd_2 := qd.2.2.1; have HT := Lib.hid (HT.out.below bb); have B0 := B0.trans (bb.mono B0.size); clear bb) | (go_at_call 13; (with_reducible refine (same_yes zz zz _ _ _ hA hC).mono ?_); rw [eqN_yes rfl]; rintro e w4 ⟨rfl, bb⟩; have hx := hx.below bb; have hy := hy.below bb; have qa := qa.below bb; have qc := qc.below bb; have qa_0 := qa.1; have qa_1 := qa.2.1; have qa_2 := qa.2.2.1; have qc_0 := qc.1; have qc_1 := qc.2.1; have qc_2 := qc.2.2.1; have HT := Lib.hid (HT.out.below bb); have B0 := B0.trans (bb.mono B0.size); clear bb) | (go_at_call 15; (with_reducible refine (encode_c hx Hz21.out HT.out).mono ?_); rw [HE.out]; rintro e w5 ⟨te, er5, rfl, bb, he5, hte⟩; subst he5; subst hte; have hy := hy.below bb; have qc := qc.below bb; have qc_0 := qc.1; have qc_1 := qc.2.1; have qc_2 := qc.2.2.1; have HT := Lib.hid (HT.out.below bb); have B0 := B0.trans (bb.mono B0.size); clear bb) | (go_at_call 15; (with_reducible refine (encode_c hy Hzy21.out HT.out).mono ?_); rintro e w6 ⟨tu, er6, rfl, bb, _⟩; have HT := Lib.hid (HT.out.below bb); have B0 := B0.trans (bb.mono B0.size); clear bb) | (go_at_call 10; (with_reducible refine (example_walk _ HT.out).mono ?_); rintro e w9 ⟨rfl, bb⟩; have HT := Lib.hid (HT.out.below bb); have B0 := B0.trans (bb.mono B0.size); clear bb))
                all_goals go_ret
                all_goals exact ⟨rfl, B0⟩
              | ok s =>
                obtain ⟨u, vv, yy, hU, hsu⟩ := path_occurs hE H1.out
                have hlen := (encd_ok hE).2
                obtain ⟨S, hS⟩ : ∃ S, S = ofL s := ⟨_, rfl⟩
                obtain ⟨V, hV⟩ : ∃ V, V = ofL u := ⟨_, rfl⟩
                obtain ⟨kk, hkk⟩ : ∃ kk, kk = vv.length := ⟨_, rfl⟩
                have hSs : S.size = s.length := by rw [hS, ofL_size]
                have hVs : V.size = u.length := by rw [hV, ofL_size]
                have HK : Hid (S.extract kk (kk + V.size) = V) := by
                  show _ = _
                  rw [hVs, hS, hV, hkk]
                  exact occ_at hsu
                have hls := congrArg List.length hsu
                rw [List.length_append, List.length_append] at hls
                have hk1 : kk + V.size ≤ S.size := by omega
                have hk2 : S.size ≤ 20000 := by omega
                have HE := Lib.hid hE
                have HU := Lib.hid hU
                have HS := Lib.hid hS
                have HV := Lib.hid hV
                clear hE hU hS hV hsu hls hkk hlen hSs hVs
                go_wp2_with (first | (go_at_call 17; (with_reducible refine (at_c hx hp hz6).mono ?_); rw [H1.out]; rintro e w2 ⟨l2, t2, A2, m2, c2, er2, rfl, bb, hN2⟩; obtain ⟨he2, hy⟩ := hN2; subst he2; have hy := hy.below (up_1 w2 (.cells #[.bool l2, .string t2, .slice A2 m2 c2] 25)); have bb := bb.alloc bb.size (.cells #[.bool l2, .string t2, .slice A2 m2 c2] 25); have qc := Bn.new w2 (.bool l2) (.string t2) (.slice A2 m2 c2) 25; have hx := hx.below bb; have hq := hq.below bb; have qa := qa.below bb; have qb := qb.below bb; have hA := hA.below bb; have qa_0 := qa.1; have qa_1 := qa.2.1; have qa_2 := qa.2.2.1; have qb_0 := qb.1; have qb_1 := qb.2.1; have qb_2 := qb.2.2.1; have qc_0 := qc.1; have qc_1 := qc.2.1; have qc_2 := qc.2.2.1; have HT := Lib.hid (HT.out.below bb); have B0 := B0.trans (bb.mono B0.size); clear bb) | (go_at_call 17; (with_reducible refine (at_c hy hq hzy6).mono ?_); rw [H2.out]; rintro e w3 ⟨l3, t3, A3, m3, c3, er3, rfl, bb, hN3⟩; obtain ⟨he3, hC⟩ := hN3; subst he3; have hC := hC.below (up_1 w3 (.cells #[.bool l3, .string t3, .slice A3 m3 c3] 25)); have bb := bb.alloc bb.size (.cells #[.bool l3, .string t3, .slice A3 m3 c3] 25); have qd := Bn.new w3 (.bool l3) (.string t3) (.slice A3 m3 c3) 25; have hx := hx.below bb; have hy := hy.below bb; have hA := hA.below bb; have qa := qa.below bb; have qb := qb.below bb; have qc := qc.below bb; have qa_0 := qa.1; have qa_1 := qa.2.1; have qa_2 := qa.2.2.1; have qb_0 := qb.1; have qb_1 := qb.2.1; have qb_2 := qb.2.2.1; have qc_0 := qc.1; have qc_1 := qc.2.1; have qc_2 := qc.2.2.1; have qd_0 := qd.1; have qd_1 := qd.2.1; have qd_2 := qd.2.2.1; have HT := Lib.hid (HT.out.below bb); have B0 := B0.trans (bb.mono B0.size); clear bb) | (go_at_call 13; (with_reducible refine (same_yes zz zz _ _ _ hA hC).mono ?_); rw [eqN_yes rfl]; rintro e w4 ⟨rfl, bb⟩; have hx := hx.below bb; have hy := hy.below bb; have qa := qa.below bb; have qc := qc.below bb; have qa_0 := qa.1; have qa_1 := qa.2.1; have qa_2 := qa.2.2.1; have qc_0 := qc.1; have qc_1 := qc.2.1; have qc_2 := qc.2.2.1; have HT := Lib.hid (HT.out.below bb); have B0 := B0.trans (bb.mono B0.size); clear bb) | (go_at_call 15; (with_reducible refine (encode_c hx Hz21.out HT.out).mono ?_); rw [HE.out]; rintro e w5 ⟨te, er5, rfl, bb, he5, hte⟩; subst he5; rw [← HS.out] at hte; have hte2 := hte; clear hte; subst hte2; have hy := hy.below bb; have qc := qc.below bb; have qc_0 := qc.1; have qc_1 := qc.2.1; have qc_2 := qc.2.2.1; have HT := Lib.hid (HT.out.below bb); have B0 := B0.trans (bb.mono B0.size); clear bb) | (go_at_call 15; (with_reducible refine (encode_c hy Hzy21.out HT.out).mono ?_); rw [HU.out]; rintro e w6 ⟨tu, er6, rfl, bb, he6, htu⟩; subst he6; rw [← HV.out] at htu; have htu2 := htu; clear htu; subst htu2; have HT := Lib.hid (HT.out.below bb); have B0 := B0.trans (bb.mono B0.size); clear bb) | (go_at_call 18; (with_reducible refine (occurs_walk _ _ kk _ hk1 hk2 HK.out).mono ?_); rintro e w7 ⟨rfl, rfl⟩) | (go_at_call 10; (with_reducible refine (example_walk _ HT.out).mono ?_); rintro e w9 ⟨rfl, bb⟩; have HT := Lib.hid (HT.out.below bb); have B0 := B0.trans (bb.mono B0.size); clear bb))
                all_goals go_ret
                all_goals exact ⟨rfl, B0⟩
end Go.Proofs.YtmklladpalcjpaaDoor
