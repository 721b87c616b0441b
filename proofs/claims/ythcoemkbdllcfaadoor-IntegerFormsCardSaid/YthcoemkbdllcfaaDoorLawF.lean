/-
  Words for the walk of garmentlaw02.IntegerForms: a result is in normal form (normal); two appends: a copy of a number's limbs, and zero limbs behind them; the number stays.
-/
import Derived.Test.YthcoemkbdllcfaaDoorLawC
import Derived.Test.YthcoemkbdllcfaaDoorIntD
import Derived.Lib.AppendZerosOnto
namespace Go.Proofs.YthcoemkbdllcfaaDoor
open Go.RowKit
set_option linter.unusedVariables false
set_option maxRecDepth 20000

set_option maxRecDepth 20000 in
theorem normal_0 (A : Option Addr) (c : Nat) (w : World) : Calls Tryd.prog 38 #[.agg #[.bool false, .slice A 0 c]] w (BoolEnd true w) := by
  go_enter Tryd.func38, Tryd.ntmps38
  go_wp2
  go_ret
  exact ⟨rfl, below_alloc _ _⟩
set_option maxRecDepth 20000 in
set_option maxHeartbeats 1000000 in
theorem normal_p (b : Bool) (g off n c : Nat) (w : World) (x : Nat) (hn : 0 < n) (hnc : n ≤ c) (hc : c ≤ 9223372036854775807) (hx : w.cell? ⟨g, off + (n - 1), none⟩ = some (.int .u32 (x : Int))) (hx0 : x ≠ 0) : Calls Tryd.prog 38 #[.agg #[.bool b, .slice (some ⟨g, off, none⟩) n c]] w (BoolEnd true w) := by
  have h1 : ((n : Int) == 0) = false := by simp; omega
  have h2 : (0 : Int) ≤ (n : Int) - 1 := by omega
  have h3 : ((n : Int) - 1).toNat = n - 1 := by omega
  have h4 : (n : Int) - 1 < (n : Int) := by omega
  have h5 : ((x : Int) != 0) = true := by simp; omega
  have h6 : (w.alloc (.cells #[.bool b, .slice (some ⟨g, off, none⟩) n c] 25)).cell? ⟨g, off + (n - 1), none⟩ = some (.int .u32 (x : Int)) := by
    rw [(below_alloc w _).cell (World.block_lt_of_cell? w _ hx)]
    exact hx
  clear hx0
  go_enter Tryd.func38, Tryd.ntmps38
  go_wp2
  go_ret
  exact ⟨rfl, below_alloc _ _⟩
theorem normal_i {w : World} {v : Value} {z : Int} {k : Nat} (h : Iz w v z k) : Calls Tryd.prog 38 #[v] w (BoolEnd true w) := by
  obtain ⟨b, A, n, c, m, rfl, ⟨l, h1, h2, h3, _⟩, h5, h6⟩ := h
  have e := h1.addr
  obtain ⟨A', c', e', g1, g2, g3, g4⟩ := h1
  simp only [Value.slice.injEq] at e'
  obtain ⟨rfl, -, rfl⟩ := e'
  rcases Nat.eq_zero_or_pos n with hn | hn
  · subst hn
    have hm : m = 0 := by rw [← h3, List.eq_nil_of_length_eq_zero e]; rfl
    rw [h6 hm]
    exact normal_0 A c w
  · obtain ⟨g, off, rfl, _, hc⟩ := g4 (by omega)
    obtain ⟨x, hx⟩ : ∃ x, l[n - 1]? = some x := ⟨_, List.getElem?_eq_getElem (by omega)⟩
    refine normal_p b g off n c w x hn (by omega) g2 (hc _ _ hx) ?_
    rintro rfl
    apply h2
    rw [List.getLast?_eq_getElem?, e]
    exact hx

theorem zeroCells_u32 (n : Nat) : Builtin.zeroCells (Value.int .u32 0).cells n = ((List.replicate n 0).map Lv).toArray := by
  rw [show (Value.int .u32 0).cells = #[Value.int .u32 0] from rfl]
  apply Array.ext'
  have hf : (fun i : Nat => (#[Value.int .u32 0] : Array Value)[i % 1]!) = fun _ => Value.int .u32 0 := funext fun i => by rw [Nat.mod_one]; rfl
  simp only [Builtin.zeroCells, List.size_toArray, List.length_cons, List.length_nil, Nat.zero_add, Nat.mul_one]
  rw [hf]
  simp only [Array.toList_map, Array.toList_range, List.map_const', List.length_range, List.map_replicate, Lv]
  rfl
def Lz (l : List Nat) (k : Nat) : List Nat := l ++ List.replicate k 0
theorem Lz.len (l : List Nat) (k : Nat) : (Lz l k).length = l.length + k := by simp [Lz]
theorem Lz.lim {l : List Nat} (h : Num.Lim l) (k : Nat) : Num.Lim (Lz l k) := h.append (Num.Lim.replicate k)
theorem Lz.val (l : List Nat) (k : Nat) : Num.val (Lz l k) = Num.val l := by rw [Lz, Num.val_append, Num.val_replicate]; simp
theorem Lz.take (l : List Nat) (k j : Nat) (h : j ≤ k) : (Lz l k).take (l.length + j) = Lz l j := by
  unfold Lz
  rw [List.take_append, List.take_of_length_le (by omega), show l.length + j - l.length = j by omega, List.take_replicate, Nat.min_eq_left h]
theorem addr_add (g off j : Nat) : (⟨g, off, none⟩ : Addr).add j = ⟨g, off + j, none⟩ := by unfold Addr.add; split <;> simp_all
theorem add0 (g j : Nat) : (⟨g, 0, none⟩ : Addr).add j = ⟨g, j, none⟩ := by rw [addr_add, Nat.zero_add]
/-- append(Nat{}, a...) -/
theorem app1_run (w : World) (g0 : Nat) (hg0 : Own 46 w g0 []) (A : Option Addr) (n c : Nat) (l : List Nat) (h : Rd w (fun _ => True) (.slice A n c) l) (hn : n ≤ 1000) :
    ∃ g cap w', (∀ ty, (Builtin.append_ #[23, 23] ty #[.slice (some ⟨g0, 0, none⟩) 0 0, .slice A n c]).run Tryd.prog w = .ok (.slice (some ⟨g, 0, none⟩) n cap) w') ∧ Own 46 w' g (Lz l (cap - n)) ∧ n ≤ cap ∧ cap ≤ maxLen ∧ Below w.heap.size w w' ∧ (g = g0 ∨ w.heap.size ≤ g) := by
  obtain ⟨i0, hi, hz0, hz1, hz2⟩ := info_parts info_u32
  have e := h.addr
  obtain ⟨A', c', e', h1, h2, hL, hc⟩ := h
  simp only [Value.slice.injEq] at e'
  obtain ⟨rfl, -, rfl⟩ := e'
  rcases Nat.eq_zero_or_pos n with h0 | h0
  · subst h0
    have hl : l = [] := List.eq_nil_of_length_eq_zero e
    subst hl
    refine ⟨g0, 0, w, fun ty => ?_, by simpa [Lz] using hg0, Nat.le_refl _, Nat.zero_le _, Below.refl _ _, .inl rfl⟩
    cases A <;> simp [Builtin.append_, run_underlying Tryd.underlying23, sizeOf, typeInfo, hi, Builtin.lenOf, Builtin.firstCells, loadCells, loadCellsFrom, storeCells]
  · obtain ⟨g', off, rfl, _, hcc⟩ := hc (by omega)
    have hr := fun ty => run_append_grow (P := Tryd.prog) w 23 ty 46 i0 (.int .u32 0) Tryd.underlying23 hi hz0 ⟨g0, 0, none⟩ 0 0 [] (by simp) (fun j v hj => by simp at hj)
      ⟨g', off, none⟩ n c (l.map Lv) (by simp [e, hz1]) (fun j v hj => by
        rw [List.getElem?_map] at hj
        cases hx : l[j]? with
        | none => rw [hx] at hj; cases hj
        | some x => rw [hx] at hj; injection hj with hj; rw [← hj, addr_add]; exact hcc j x hx) (by omega) (by omega) (by rw [hz2]; have := nextslicecap_le (need := 0 + n) (old := 0) (by omega); omega)
    have hge := grownCap_ge w (0 + n) 0 46
    have hcm := grownCap_le_maxLen w (0 + n) 0 46 (by unfold maxLen; omega)
    rw [Nat.zero_add] at hr hge hcm
    refine ⟨w.heap.size, _, _, hr, ?_, hge, hcm, ?_, .inr (Nat.le_refl _)⟩
    · unfold Own
      rw [show w.heap.size = w.drew.heap.size from rfl, heap_alloc_new, zeroCells_u32]
      simp [Lz]
    · exact (b_drew (Below.refl _ _)).alloc (Nat.le_refl _) _
/-- append(s, make([]uint32, k)...) onto such a copy -/
theorem app2_run (w : World) (g n cap k : Nat) (l : List Nat) (hl : l.length = n) (hL : Num.Lim l) (hg : Own 46 w g (Lz l (cap - n))) (hnc : n ≤ cap) (hcm : cap ≤ maxLen) (hn : n ≤ 1000) (hk : k ≤ 1000) :
    ∃ A c' w', (∀ ty, (Builtin.append_ #[23, 3] ty #[.slice (some ⟨g, 0, none⟩) n cap, .int .i64 (k : Int)]).run Tryd.prog w = .ok (.slice A (n + k) c') w') ∧ Nm w' (.slice A (n + k) c') (Num.val l) (n + k) ∧ w.grownBy w' (some g) := by
  obtain ⟨i0, hi, hz0, hz1, hz2⟩ := info_parts info_u32
  have hw : IntKind.i64.wrap (k : Int) = k := by rw [IntKind.wrap_i64]; omega
  have hneg : ¬ ((k : Int) < 0) := by omega
  have h48 : ¬ (281474976710656 < (k : Int) * (i0.bytes : Int)) := by rw [hz2]; omega
  unfold maxLen at hcm
  by_cases hroom : n + k ≤ cap
  · have key : ∀ w' : World, Own 46 w' g (Lz l (cap - n)) → Nm w' (.slice (some ⟨g, 0, none⟩) (n + k) cap) (Num.val l) (n + k) := fun w' h => by
      have hr := h.rdTake (fun _ => True) trivial (Lz.lim hL _) (n + k) cap (by rw [Lz.len]; omega) hroom (by omega)
      rw [← hl, Lz.take l _ k (by omega)] at hr
      rw [hl] at hr
      exact ⟨Lz l k, hr, Lz.val l k, by rw [Lz.len]; omega⟩
    rcases Nat.eq_zero_or_pos k with h0 | h0
    · subst h0
      refine ⟨some ⟨g, 0, none⟩, cap, w, fun ty => ?_, key w hg, only_refl _ _⟩
      have hs0 : ∀ a, (storeCells a []).run Tryd.prog w = .ok () w := fun a => by first | rfl | simp [storeCells]
      have hw0 : IntKind.i64.wrap 0 = 0 := by rw [IntKind.wrap_i64]; omega
      simp [Builtin.append_, run_underlying Tryd.underlying23, run_underlying Tryd.underlying3, sizeOf, typeInfo, hi, asInt, asIntOf, hz1, hz2, hnc, hw0, hs0]
    · have hst := run_storeCells_at Tryd.prog g n 46 ((List.replicate k 0).map Lv) 0 (((Lz l (cap - n)).map Lv).toArray) w hg (by simp [Lz.len]; omega) (fun v hv => by obtain ⟨x, _, rfl⟩ := List.mem_map.1 hv; rfl)
      have hsame : ((((Lz l (cap - n)).map Lv).toArray.toList.take n ++ (List.replicate k 0).map Lv ++ ((Lz l (cap - n)).map Lv).toArray.toList.drop (n + ((List.replicate k 0).map Lv).length)) : List Value).toArray = ((Lz l (cap - n)).map Lv).toArray := by
        congr 1
        simp only [List.length_map, List.length_replicate]
        have e1 : (Lz l (cap - n)).take n = l := by rw [← hl]; simp [Lz]
        have e2 : (Lz l (cap - n)).drop (n + k) = List.replicate (cap - n - k) 0 := by rw [← hl]; simp [Lz, List.drop_append, Nat.add_sub_cancel_left]
        rw [← List.map_take, ← List.map_drop, e1, e2, ← List.map_append, ← List.map_append]
        congr 1
        rw [List.append_assoc, List.replicate_append_replicate, Lz, show k + (cap - n - k) = cap - n by omega]
      refine ⟨some ⟨g, 0, none⟩, cap, w.setRow g (((Lz l (cap - n)).map Lv).toArray), fun ty => ?_, key _ ?_, ?_⟩
      · have hst' : (storeCells ⟨g, n, none⟩ ((List.replicate k 0).map Lv)).run Tryd.prog w = .ok () (w.setRow g ((Lz l (cap - n)).map Lv).toArray) := by
          rw [Nat.add_zero, hsame] at hst
          exact hst
        have hk0 : k ≠ 0 := by omega
        have h48' : ¬ (281474976710656 < (k : Int) * 4) := by omega
        have hzc : (Builtin.zeroCells (Value.int .u32 0).cells k).toList = (List.replicate k 0).map Lv := by rw [zeroCells_u32]
        simp [Builtin.append_, run_underlying Tryd.underlying23, run_underlying Tryd.underlying3, sizeOf, typeInfo, zeroValue, hi, hz0, asInt, asIntOf, hz1, hz2, hw, hneg, hroom, hk0, hzc, add0, hst', h48', - List.map_replicate]
      · unfold Own
        rw [setRow_heap w g _ _ _ _ hg]
      · exact ⟨rfl, rfl, rfl, by simp [World.setRow], fun i hi hne => setRow_other w g i _ (by intro e; exact hne (by rw [e]))⟩
  · have hold : (Builtin.firstCells i0.size n (.slice (some ⟨g, 0, none⟩) n cap)).run Tryd.prog w.drew = .ok (l.map Lv).toArray w.drew :=
      run_firstCells_some w.drew i0.size n ⟨g, 0, none⟩ n cap (l.map Lv) (by simp [hl, hz1]) (fun j v hj => by
        rw [List.getElem?_map] at hj
        cases hx : l[j]? with
        | none => rw [hx] at hj; cases hj
        | some x =>
          rw [hx] at hj; injection hj with hj; rw [← hj, add0]
          have := hg.cel j x (by unfold Lz; rw [List.getElem?_append_left (List.getElem?_eq_some_iff.1 hx).1]; exact hx)
          rwa [Nat.zero_add] at this)
    have hr := fun ty => Lib.run_append_grow_zeros (P := Tryd.prog) w 23 3 ty 46 i0 (.int .u32 0) .i64 .i64 Tryd.underlying23 Tryd.underlying3 hi hz0 (some ⟨g, 0, none⟩) n cap (l.map Lv) hold k (by omega) (by omega) (by omega) (by omega) (by rw [hz2]; omega)
      (by rw [hz2]; have := nextslicecap_le (need := n + k) (old := cap) (by omega); omega)
    have hge := grownCap_ge w (n + k) cap 46
    have hcm' := grownCap_le_maxLen w (n + k) cap 46 (by unfold maxLen; omega)
    unfold maxLen at hcm'
    obtain ⟨G, hG⟩ : ∃ G, G = grownCap w (n + k) cap 46 := ⟨_, rfl⟩
    rw [← hG] at hr hge hcm'
    refine ⟨some ⟨w.heap.size, 0, none⟩, G, _, hr, ?_, ⟨rfl, rfl, rfl, by simp, fun i hi' _ => Below.heap_alloc w.drew _ i hi'⟩⟩
    have hown : Own 46 (w.drew.alloc (.cells ((l.map Lv).toArray ++ Builtin.zeroCells (Value.int .u32 0).cells k ++ Builtin.zeroCells (Value.int .u32 0).cells (G - (n + k))) 46)) w.heap.size (Lz l (G - n)) := by
      unfold Own
      rw [show w.heap.size = w.drew.heap.size from rfl, heap_alloc_new]
      congr 2
      rw [zeroCells_u32, zeroCells_u32, Lz, show G - n = k + (G - (n + k)) by omega, ← List.replicate_append_replicate]
      simp
    have hrd := hown.rdTake (fun _ => True) trivial (Lz.lim hL _) (n + k) G (by rw [Lz.len]; omega) hge (by omega)
    rw [← hl, Lz.take l _ k (by omega)] at hrd
    rw [hl] at hrd
    exact ⟨Lz l k, hrd, Lz.val l k, by rw [Lz.len]; omega⟩
/-- An append whose run is known, at a step of a region that draws its order. -/
theorem step_run {P : Program} {w : World} {ops : Array Oper} {o : Oper} {a : Act} {K : Act → World → Prop} {Q : Exit → Act → World → Prop} {E : Prop} (hgd : o.guard = none) (s x : Operand) (t tn : TypeId)
    (ho : o.op = .call { callee := .builtin .append, args := #[s, x], argTypes := #[t, tn] }) (vs vx : Value) (hs : a.eval s = vs) (hx : a.eval x = vx)
    (v' : Value) (w' : World) (hr : (Builtin.append_ #[t, tn] o.type #[vs, vx]).run P w = .ok v' w') (h : K (a.put o.dst v') w') :
    if Region.wanted o (yielded ops a.tmps) = true then Oper.wp P o a w K Q else E := by
  have hw : Region.wanted o (yielded ops a.tmps) = true := by simp [Region.wanted, hgd]
  rw [if_pos hw]
  exact Lib.wp_append_run w s x t tn ho vs vx hs hx v' w' hr h
theorem Rd.drew {w : World} {S : Nat → Prop} {v : Value} {l : List Nat} (h : Rd w S v l) : Rd w.drew S v l := h
theorem own_empty (w : World) (g : Nat) (hg : g = w.heap.size) : Own 46 (w.alloc (.cells #[] 46)) g [] := by
  subst hg
  exact Own.new w 46 []
theorem Bx.lt {w : World} {g : Nat} {v0 v1 : Value} (h : Bx w g v0 v1) : g < w.heap.size := World.block_lt_of_cell? w _ h.1
theorem Rx.lt {w : World} {g : Nat} (h : Rx w g) : g < w.heap.size := World.block_lt_of_cell? w _ h.1
theorem Nm.later {w : World} {v : Value} {m k : Nat} (h : Nm w v m k) (o : Obj) : Nm (w.alloc o) v m k := h.below (below_alloc w o)
theorem Nm.ret {w : World} {v : Value} {m k g : Nat} (h : Nm w v m k) (hr : Rx w g) (a b : Value) : Nm ((w.setCell ⟨g, 0, none⟩ a).setCell ⟨g, 1, none⟩ b) v m k := by
  refine (h.put hr.1 (NoInt.bool _) a).put (x := .slice none 0 0) ?_ (NoInt.slice _ _ _) b
  exact (World.cell?_setCell_other _ _ _ _ (by simp)).trans hr.2.1
theorem Bw.sz {B : Nat} {W0 W : World} (h : Bw B W0 W) : B ≤ W.heap.size := h.2
theorem Bw.grown {B g : Nat} {W0 W w' : World} (h : Bw B W0 W) (hg : W.grownBy w' (some g)) (hB : B ≤ g) : Bw B W0 w' :=
  ⟨h.1.grown hg h.2 (fun k hk => by injection hk with hk; omega), Nat.le_trans h.2 hg.size⟩
theorem Rx.grown {g r : Nat} {W w' : World} (h : Rx W r) (hg : W.grownBy w' (some g)) (hne : r ≠ g) : Rx w' r := by
  have hr := h.lt
  have e : some r ≠ some g := fun e => hne (by injection e)
  exact ⟨(World.cell?_of_block (a := ⟨r, 0, none⟩) (hg.block r hr e)).trans h.1, (World.cell?_of_block (a := ⟨r, 1, none⟩) (hg.block r hr e)).trans h.2.1, (World.frozen?_of_block (a := ⟨r, 0, none⟩) (hg.block r hr e)).trans h.2.2.1, (World.frozen?_of_block (a := ⟨r, 1, none⟩) (hg.block r hr e)).trans h.2.2.2⟩
/-- A variable that can still be written. -/
def Ux (w : World) (g : Nat) : Prop := w.frozen? ⟨g, 0, none⟩ = false ∧ g < w.heap.size
theorem Ux.new (w : World) (g : Nat) (hg : g = w.heap.size) (v0 v1 : Value) : Ux (w.alloc (.cells #[v0, v1] 25)) g := by
  subst hg
  exact ⟨by simp, by simp⟩
theorem Rx.ux {w : World} {g : Nat} (h : Rx w g) (a b : Value) : Ux ((w.setCell ⟨g, 0, none⟩ a).setCell ⟨g, 1, none⟩ b) g := ⟨by simpa using h.2.2.1, by simpa [World.setCell] using h.lt⟩
theorem Ux.below {w w' : World} {g : Nat} (h : Ux w g) (hb : Below w.heap.size w w') : Ux w' g := ⟨(hb.frozen (p := ⟨g, 0, none⟩) h.2).trans h.1, Nat.lt_of_lt_of_le h.2 hb.size⟩
theorem Ux.drew {w : World} {g : Nat} (h : Ux w g) : Ux w.drew g := h
theorem Bx.flip {w : World} {g : Nat} {v0 v1 : Value} (h : Bx w g v0 v1) (u : Value) : Bx (w.setCell ⟨g, 0, none⟩ u) g u v1 :=
  ⟨World.cell?_setCell_same _ _ _ h.1, (World.cell?_setCell_other _ _ _ _ (by simp)).trans h.2⟩
theorem Bx.far {w : World} {g r : Nat} {v0 v1 : Value} (h : Bx w g v0 v1) (hne : r ≠ g) (u : Value) : Bx (w.setCell ⟨r, 0, none⟩ u) g v0 v1 := by
  have e : ∀ j : Nat, (⟨r, 0, none⟩ : Addr) ≠ ⟨g, j, none⟩ := fun j h => hne (Addr.mk.inj h).1
  exact ⟨(World.cell?_setCell_other _ _ _ _ (e _)).trans h.1, (World.cell?_setCell_other _ _ _ _ (e _)).trans h.2⟩
theorem Iv.flip {w : World} {b : Bool} {A : Option Addr} {n c k : Nat} (h : Iv w (.agg #[.bool b, .slice A n c]) 0 k) : Iv w (.agg #[.bool (!b), .slice A n c]) 0 k := by
  obtain ⟨b', A', n', c', m, e, h1, h2⟩ := h
  simp only [Value.agg.injEq, Array.mk.injEq, List.cons.injEq, Value.bool.injEq, Value.slice.injEq, and_true] at e
  obtain ⟨rfl, rfl, rfl, rfl⟩ := e
  have hm : m = 0 := by have := sgn_abs b m; rw [← h2] at this; simpa using this.symm
  exact ⟨!b, A, n, c, m, rfl, h1, by rw [hm, sgn_zero]⟩
/-- Quotient, remainder and whether there are any. -/
def UEnd (q r : Int) (ok : Bool) (k j : Nat) (w : World) (e : Ending) (w' : World) : Prop := ∃ v1 v2, e = .returned (.tuple #[v1, v2, .bool ok]) ∧ Iz w' v1 q k ∧ Iz w' v2 r j ∧ Below w.heap.size w w'
theorem zero_izk (w : World) (k : Nat) : Iz w (.agg #[.bool false, .slice none 0 0]) 0 k := (zero_iz w).wide (Nat.zero_le _)
theorem idiv_u {w : World} {v u : Value} {z y : Int} {k j : Nat} (h : Iv w v z k) (hu : Iv w u y j) (hk : k ≤ 400) (hj : j ≤ 400) (q r : Int) (ok : Bool) (ho : (y = 0 ∧ q = 0 ∧ r = 0 ∧ ok = false) ∨ (y ≠ 0 ∧ q = z / y ∧ r = z % y ∧ ok = true)) :
    Calls Tryd.prog 25 #[v, u] w (UEnd q r ok (k + 3) j w) := by
  rcases ho with ⟨hy, rfl, rfl, rfl⟩ | ⟨hy, rfl, rfl, rfl⟩
  · exact (idiv_i0 h hu hk hj hy).mono fun e w' ⟨he, hb⟩ => ⟨_, _, he, zero_izk w' _, zero_izk w' _, hb⟩
  · exact idiv_i h hu hk hj hy
/-- What region 3 leaves: the copy's variable, and that nothing that was there has changed. -/
def Cz (W : World) (b : Bool) (n m : Nat) (s7 : Value) (wx : World) : Prop :=
  ∃ (gz : Nat) (A9 : Option Addr) (c9 : Nat), s7 = .pointer (some ⟨gz, 0, none⟩) ∧ Bx wx gz (.bool b) (.slice A9 n c9) ∧ Ux wx gz ∧ W.heap.size ≤ gz ∧ Nm wx (.slice A9 n c9) m n ∧ Bw W.heap.size W wx
theorem step_app1 {w : World} {ops : Array Oper} {o : Oper} {a : Act} {K : Act → World → Prop} {Q : Exit → Act → World → Prop} {E : Prop} (hgd : o.guard = none) (s x : Operand)
    (ho : o.op = .call { callee := .builtin .append, args := #[s, x], argTypes := #[23, 23] }) (g0 : Nat) (A : Option Addr) (n c : Nat) (l : List Nat) (hs : a.eval s = .slice (some ⟨g0, 0, none⟩) 0 0) (hx : a.eval x = .slice A n c) (hn : n ≤ 1000)
    (hown : Own 46 w g0 []) (hrd : Rd w (fun _ => True) (.slice A n c) l)
    (h : ∀ g cap w', Own 46 w' g (Lz l (cap - n)) → n ≤ cap → cap ≤ maxLen → Below w.heap.size w w' → (g = g0 ∨ w.heap.size ≤ g) → K (a.put o.dst (.slice (some ⟨g, 0, none⟩) n cap)) w') :
    if Region.wanted o (yielded ops a.tmps) = true then Oper.wp Tryd.prog o a w K Q else E := by
  obtain ⟨g, cap, w', hr, h1, h2, h3, h4, h5⟩ := app1_run w g0 hown A n c l hrd hn
  exact step_run hgd s x _ _ ho _ _ hs hx _ _ (hr _) (h g cap w' h1 h2 h3 h4 h5)
theorem step_app2 {w : World} {ops : Array Oper} {o : Oper} {a : Act} {K : Act → World → Prop} {Q : Exit → Act → World → Prop} {E : Prop} (hgd : o.guard = none) (s x : Operand)
    (ho : o.op = .call { callee := .builtin .append, args := #[s, x], argTypes := #[23, 3] }) (g n cap k : Nat) (l : List Nat) (hs : a.eval s = .slice (some ⟨g, 0, none⟩) n cap) (hx : a.eval x = .int .i64 (k : Int))
    (hl : l.length = n) (hL : Num.Lim l) (hnc : n ≤ cap) (hcm : cap ≤ maxLen) (hn : n ≤ 1000) (hk : k ≤ 1000) (hg : Own 46 w g (Lz l (cap - n)))
    (h : ∀ A c' w', Nm w' (.slice A (n + k) c') (Num.val l) (n + k) → w.grownBy w' (some g) → K (a.put o.dst (.slice A (n + k) c')) w') :
    if Region.wanted o (yielded ops a.tmps) = true then Oper.wp Tryd.prog o a w K Q else E := by
  obtain ⟨A, c', w', hr, h1, h2⟩ := app2_run w g n cap k l hl hL hg hnc hcm hn hk
  exact step_run hgd s x _ _ ho _ _ hs hx _ _ (hr _) (h A c' w' h1 h2)
end Go.Proofs.YthcoemkbdllcfaaDoor
