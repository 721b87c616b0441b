/-
  The walks of garmentref01.limb, Norm and Of.
-/
import Derived.Test.YthcoemkbdllcfaaDoorNumK
import Derived.Test.YthcoemkbdllcfaaDoorText
namespace Go.Proofs.YthcoemkbdllcfaaDoor
open Go.RowKit

def lm (l : List Nat) (i : Nat) : Nat := l.getD i 0
theorem lm_at {l : List Nat} {i x : Nat} (h : l[i]? = some x) : lm l i = x := by simp [lm, h]
theorem lm_out {l : List Nat} {i : Nat} (h : l.length ≤ i) : lm l i = 0 := by simp [lm, h]
theorem lm_lt {l : List Nat} (hL : Num.Lim l) (i : Nat) : lm l i < 4294967296 := by
  cases h : l[i]? with
  | none => simp [lm, h]
  | some x => rw [lm_at h]; exact hL.at h
theorem take_lm (l : List Nat) (k : Nat) : Num.val (l.take (k + 1)) = Num.val (l.take k) + Num.K ^ k * lm l k := by
  cases h : l[k]? with
  | none =>
    have hk : l.length ≤ k := by simpa using h
    rw [lm_out hk, take_past l k hk]
  | some x => rw [lm_at h, val_take_succ l k x h]

set_option maxRecDepth 4000 in
set_option maxHeartbeats 1000000 in
theorem limb_walk (A : Option Addr) (n c i : Nat) (l : List Nat) (w : World) (hn : l.length = n) (hb : n ≤ 9223372036854775807) (hi : i ≤ 1000000000) (hL : Num.Lim l) (h : Cel w (fun _ => True) A l) :
    Calls Tryd.prog 65 #[.slice A n c, .int .i64 (i : Int)] w fun e w' => e = .returned (.int .u64 (lm l i : Int)) ∧ w = w' := by
  by_cases hlt : i < n
  · obtain ⟨x, hx⟩ : ∃ x, l[i]? = some x := ⟨_, List.getElem?_eq_getElem (by omega)⟩
    obtain ⟨g, off, rfl, _, hc⟩ := h (by omega)
    have hcx := hc _ _ hx
    have hxb : x < 4294967296 := hL.at hx
    have Hx := Lib.hid (lm_at hx)
    have hd : decide ((n : Int) ≤ (i : Int)) = false := decide_eq_false (by omega)
    clear hx hc hn
    go_enter Tryd.func65, Tryd.ntmps65
    go_wp2
    go_ret
    rw [Hx.out]
    exact ⟨rfl, rfl⟩
  · have Hx := Lib.hid (lm_out (l := l) (i := i) (by omega))
    have hd : decide ((n : Int) ≤ (i : Int)) = true := decide_eq_true (by omega)
    clear hn
    go_enter Tryd.func65, Tryd.ntmps65
    go_wp2
    go_ret
    rw [Hx.out]
    exact ⟨rfl, rfl⟩

/-- append of a slice without elements, nil or not, to a row of the call's own -/
theorem run_append_nothing {P : Program} (w : World) (base : Nat) (t ty e : TypeId) (i : TypeInfo) (ht : P.underlying t = some (.slice e)) (hi : P.info? e = some i)
    (v : Value) (n : Nat) (xs : List Value) (hown : w.ownsRow base e 1 v n xs) (c : Nat) : (Builtin.append_ #[t, t] ty #[v, .slice none 0 c]).run P w = .ok v w := by
  rcases hown.2 with ⟨rfl, rfl⟩ | ⟨g, cap, cur, rfl, _, _, hnc, _⟩
  · simp [Builtin.append_, run_underlying ht, sizeOf, typeInfo, hi, Builtin.lenOf, Builtin.firstCells]
  · simp [Builtin.append_, run_underlying ht, sizeOf, typeInfo, hi, Builtin.lenOf, Builtin.firstCells, hnc, storeCells]
theorem wpList_append_u32 {P : Program} {w : World} {ops : Array Oper} {rest : List Oper} {o : Oper} {a : Act} {Q : Exit → Act → World → Prop} (hgd : o.guard = none) (s x : Operand) (t : TypeId)
    (ho : o.op = .call { callee := .builtin .append, args := #[s, x], argTypes := #[t, t] }) (base : Nat) (e : TypeId) (i : TypeInfo) (ht : P.underlying t = some (.slice e)) (hi : P.info? e = some i) (hz : i.zero = some (.int .u32 0)) (hsize : i.size = 1) (hby : i.bytes = 4)
    (v : Value) (l : List Nat) (hs : a.eval s = v) (hrow : w.ownsRow base e 1 v l.length (l.map Lv)) (A : Option Addr) (m c : Nat) (news : List Nat) (hx : a.eval x = .slice A m c) (hm : news.length = m) (S : Nat → Prop) (hcel : Cel w S A news)
    (hb : l.length + m ≤ 1000000) (hbase : base ≤ w.heap.size)
    (h : ∀ v' w', w'.ownsRow base e 1 v' (l ++ news).length ((l ++ news).map Lv) → w.grownBy w' v.ownBlock → wpList P ops Q rest (a.put o.dst v') w') : wpList P ops Q (o :: rest) a w := by
  subst hm
  rcases A with _ | ad
  · have h0 : news = [] := by
      rcases Nat.eq_zero_or_pos news.length with h0 | h0
      · exact List.eq_nil_of_length_eq_zero h0
      · obtain ⟨g, off, e, _⟩ := hcel h0
        cases e
    subst h0
    refine wpList_plain hgd fun K hK => ?_
    have hr := run_append_nothing (P := P) w base t o.type e i ht hi v _ _ hrow c
    unfold Oper.wp execOp
    simp only [ho, resolve, invoke, builtin, Sem.run_bind, Sem.run_pure, Result.andThen_ok, List.map_toArray, List.map_cons, List.map_nil, hs, hx, List.length_nil, hr]
    exact hK _ _ (h v w (by simpa using hrow) (only_refl _ _))
  · refine wpList_append_own (P := P) w hgd s x t ho base e i (.int .u32 0) 1 4 ht hi hz hsize hby rfl (by decide) v l.length (l.map Lv) hs hrow ad news.length c (news.map Lv) hx (by simp) ?_ ?_ (by unfold maxLen; omega) (by omega) hbase ?_
    · intro j u hu
      rw [List.getElem?_map] at hu
      cases hn : news[j]? with
      | none => rw [hn] at hu; cases hu
      | some y =>
        rw [hn] at hu
        injection hu with hu
        have hlt := (List.getElem?_eq_some_iff.1 hn).1
        obtain ⟨g, off, e, _, hc⟩ := hcel (by omega)
        injection e with e
        subst e
        rw [← hu, show (⟨g, off, none⟩ : Addr).add j = ⟨g, off + j, none⟩ from by unfold Addr.add; split <;> simp_all]
        exact hc j y hn
    · intro u hu
      obtain ⟨y, _, rfl⟩ := List.mem_map.1 hu
      rfl
    · intro v' w' hown' hg _
      exact h v' w' (by rw [List.length_append, List.map_append]; exact hown') hg

/-- A call returns the number m in a block of its own, or nil. -/
def NumNew (m : Nat) (w : World) (e : Ending) (w' : World) : Prop := ∃ v, e = .returned v ∧ ∃ l, Rd w' (fun g => w.heap.size ≤ g) v l ∧ Num.Nrm l ∧ Num.val l = m ∧ Below w.heap.size w w'
theorem NumNew.fin {m : Nat} {w w' : World} {e : Ending} (h : NumNew m w e w') : NumEnd m w e w' := by
  obtain ⟨v, he, l, h1, h2, h3, h4⟩ := h
  exact ⟨v, he, l, h1.mono (fun _ _ => trivial), h2, h3, h4⟩
set_option maxRecDepth 4000 in
set_option maxHeartbeats 1000000 in
theorem rnorm_walk (va : Value) (la : List Nat) (w : World) (ha : Rd w (fun _ => True) va la) (hla : la.length ≤ 100000) :
    Calls Tryd.prog 53 #[va] w (NumNew (Num.val la) w) := by
  obtain ⟨i0, hi, hz0, hz1, hz2⟩ := info_parts info_u32
  obtain ⟨A, n, c, rfl, Hn, hlc, hc, HLa, h⟩ := ha.open_
  have hnb : n ≤ 100000 := by have := Hn.out; omega
  clear ha hla
  go_enter Tryd.func53, Tryd.ntmps53
  go_wp2
  go_loop [3] (fun i => ∃ k : Nat, k ≤ n ∧ i = .int .i64 k ∧ Num.Zer la k) (fun i => (intOf i).toNat)
  case atStart => exact ⟨n, Nat.le_refl _, rfl, by rw [← Hn.out]; exact Num.Zer.top la⟩
  case round =>
    obtain ⟨k, hk, rfl, hz⟩ := hrel
    have fin : Num.Nrm (la.take k) → ∀ v w', Row w' w.heap.size v (la.take k) → w.grownBy w' none → NumNew (Num.val la) w (.returned v) w' := fun hN v w' hrow hg =>
      ⟨v, rfl, la.take k, hrow.rd (HLa.out.take k), hN, hz.val (by have := Hn.out; omega), ⟨hg.os, hg.tape, hg.output, hg.size, fun i hi => hg.block i hi (by simp)⟩⟩
    have Fin := Lib.hid fin
    have hcel := h.take k
    have Lk : Hid ((la.take k).length = k) := by show _ = _; have := Hn.out; rw [List.length_take]; omega
    clear fin
    by_cases h0 : k = 0
    · have h0' : ¬ 0 < k := by omega
      have hN : Hid (Num.Nrm (la.take k)) := by rw [h0]; exact Num.nrm_take_zero la
      clear h0
      go_wp2_with (at_builtin; refine wpList_append_u32 rfl (.tmp 19) (.tmp 22) 23 rfl w.heap.size 46 i0 Tryd.underlying23 hi hz0 hz1 hz2 _ [] rfl (World.ownsRow_nil _ _ _ 1) A k c (la.take k) rfl Lk.out (fun _ => True) hcel (by simp; omega) (Nat.le_refl _) ?_; intro v' w' hrow' hg')
      go_ret
      exact Fin.out hN.out _ _ hrow' hg'
    · have h0' : 0 < k := by omega
      have hkl : k - 1 < la.length := by have := Hn.out; omega
      obtain ⟨g, off, rfl, _, hcs⟩ := h (by omega)
      obtain ⟨x, hx⟩ : ∃ x, la[k - 1]? = some x := ⟨_, List.getElem?_eq_getElem hkl⟩
      have hcell := hcs _ _ hx
      have Hx := Lib.hid hx
      clear hx h0 hcs hkl
      by_cases hx0 : x = 0
      · subst hx0
        go_wp2
        go_round
        case rel => exact ⟨k - 1, by omega, by go_num, Num.Zer.step (by rw [show k - 1 + 1 = k from by omega]; exact hz) Hx.out⟩
        case measure => simp [intOf]; omega
      · have hxb : ((x : Int) == 0) = false := by simp; omega
        have hN : Hid (Num.Nrm (la.take k)) := by have := Num.nrm_take_of Hx.out hx0; rwa [show k - 1 + 1 = k from by omega] at this
        go_wp2_with (at_builtin; refine wpList_append_u32 rfl (.tmp 19) (.tmp 22) 23 rfl w.heap.size 46 i0 Tryd.underlying23 hi hz0 hz1 hz2 _ [] rfl (World.ownsRow_nil _ _ _ 1) _ k c (la.take k) rfl Lk.out (fun _ => True) hcel (by simp; omega) (Nat.le_refl _) ?_; intro v' w' hrow' hg')
        go_ret
        exact Fin.out hN.out _ _ hrow' hg'

/-- One limb more, laid in a block of its own and appended. -/
theorem lit_cel (W : World) (x : Nat) (z : Int) (hz : z = (x : Int)) : Cel (W.alloc (.cells #[.int .u32 z] 46)) (fun _ => True) (some ⟨W.heap.size, 0, none⟩) [x] := fun _ => by
  subst hz
  exact ⟨_, 0, rfl, trivial, (Own.new W 46 [x]).cel⟩

/-- The loop of Of. -/
def OfInv (n : Nat) (w : World) (gk : Nat) (x y : Value) (wr : World) : Prop :=
  ∃ l, x = .int .u64 (gk : Int) ∧ gk < 18446744073709551616 ∧ Row wr w.heap.size y l ∧ Num.Lim l ∧ Num.val l + Num.K ^ l.length * gk = n ∧ (gk = 0 → Num.Nrm l) ∧ l.length ≤ 2 ∧ (gk ≠ 0 → l.length ≤ 1 ∧ (l.length = 1 → gk < 4294967296)) ∧ Below w.heap.size w wr
set_option maxRecDepth 4000 in
set_option maxHeartbeats 1000000 in
theorem rof_walk (n : Nat) (w : World) (hn : n < 18446744073709551616) : Calls Tryd.prog 54 #[.int .u64 (n : Int)] w (NumEnd n w) := by
  obtain ⟨i0, hi, hz0, hz1, hz2⟩ := info_parts info_u32
  go_enter Tryd.func54, Tryd.ntmps54
  go_wp2
  go_loopg [0, 3] n (fun gk x y wr => OfInv n w gk x y wr)
  case atStart => exact ⟨[], rfl, hn, Row.nil _ _, Num.Lim.nil, by simp [Num.val], fun _ => Num.Nrm.nil, by simp, fun _ => ⟨by simp, fun h => by simp at h⟩, Below.refl _ _⟩
  case round =>
    obtain ⟨l, rfl, hgb, hrow, hL, hv, hN, hlen, hlen1, hbl⟩ := hrel
    have HL := Lib.hid hL
    have Hv := Lib.hid hv
    have HN := Lib.hid hN
    have Hlen1 := Lib.hid hlen1
    have hbs := hbl.size
    clear hL hv hN hlen1
    by_cases h0 : 0 < gk
    · have hrow1 : wr.ownsRow w.heap.size 46 1 _ l.length (l.map Lv) := hrow
      go_wp2_with (at_builtin; refine wpList_append_u32 rfl (.tmp 6) (.tmp 10) 23 rfl w.heap.size 46 i0 Tryd.underlying23 hi hz0 hz1 hz2 _ l rfl (hrow1.alloc _) _ 1 1 [gk % 4294967296] rfl rfl (fun _ => True) (lit_cel wr (gk % 4294967296) _ (by omega)) (by omega) (by simp; omega) ?_; intro v' w' hrow' hg')
      go_roundg (gk / 4294967296)
      case measure => omega
      case rel =>
        have hg2 := only_trans (World.grownBy_alloc wr _ _) hg'
        refine ⟨l ++ [gk % 4294967296], by go_num, by omega, hrow', HL.out.append (lim1 _ (Nat.mod_lt _ (by omega))), ?_, ?_, ?_, ?_, hbl.grown hg2 hbs (fun b hb => (hrow.lt b hb).1)⟩
        · have h1 := Hv.out
          rw [Num.val_snoc, List.length_append]
          show _ + Num.K ^ (l.length + 1) * _ = _
          have h2 : gk % 4294967296 + Num.K * (gk / 4294967296) = gk := by rw [Num.K_eq]; omega
          have h3 := congrArg (Num.K ^ l.length * ·) h2
          simp only [Nat.mul_add, ← Nat.mul_assoc] at h3
          rw [Nat.pow_succ]
          omega
        · intro h
          unfold Num.Nrm
          rw [List.getLast?_append]
          simp
          omega
        · have := Hlen1.out (by omega)
          simp
          omega
        · intro h
          have := Hlen1.out (by omega)
          have h4 : l.length = 0 := by
            rcases Nat.eq_zero_or_pos l.length with h5 | h5
            · exact h5
            · have := this.2 (by omega)
              omega
          rw [List.length_append, h4]
          exact ⟨Nat.le_refl _, fun _ => by omega⟩
    · have hg0 : gk = 0 := by omega
      go_wp2
      go_ret
      subst hg0
      have h1 := Hv.out
      rw [Nat.mul_zero, Nat.add_zero] at h1
      exact ⟨_, rfl, l, (hrow.rd HL.out).mono (fun _ _ => trivial), HN.out rfl, h1, hbl⟩
end Go.Proofs.YthcoemkbdllcfaaDoor
