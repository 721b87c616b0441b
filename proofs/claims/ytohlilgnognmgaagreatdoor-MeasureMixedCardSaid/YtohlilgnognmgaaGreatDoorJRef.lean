import Derived.Test.YtohlilgnognmgaaGreatDoorJText
import Derived.Deep.RegionWith
/-
  The walks of garmentref01.limb, Norm and Of.
-/
namespace Go.Proofs.YtohlilgnognmgaaGreatDoor
open Go.RowKit

def lm (l : List Nat) (i : Nat) : Nat := l.getD i 0
theorem lm_at {l : List Nat} {i x : Nat} (h : l[i]? = some x) : lm l i = x := by simp [lm, h]
theorem lm_out {l : List Nat} {i : Nat} (h : l.length ≤ i) : lm l i = 0 := by simp [lm, h]
theorem lm_lt {l : List Nat} (hL : Num.Lim l) (i : Nat) : lm l i < 4294967296 := by
  cases h : l[i]? with
  | none => simp [lm, h]
  | some x => rw [lm_at h]; exact hL.at h
theorem take_lm (l : List Nat) (k : Nat) : Num.val (l.take (k + 1)) = Num.val (l.take k) + Num.K ^ k * lm l k := by
  cases h : l[k]? with
  | none =>
    have hk : l.length ≤ k := by simpa using h
    rw [lm_out hk, take_past l k hk]
  | some x => rw [lm_at h, val_take_succ l k x h]

set_option maxRecDepth 4000 in
set_option maxHeartbeats 1000000 in
theorem limb_walk (A : Option Addr) (n c i : Nat) (l : List Nat) (w : World) (hn : l.length = n) (hb : n ≤ 9223372036854775807) (hi : i ≤ 1000000000) (hL : Num.Lim l) (h : Cel w (fun _ => True) A l) :
    Calls Tryz.prog 95 #[.slice A n c, .int .i64 (i : Int)] w fun e w' => e = .returned (.int .u64 (lm l i : Int)) ∧ w = w' := by
  by_cases hlt : i < n
  · obtain ⟨x, hx⟩ : ∃ x, l[i]? = some x := ⟨_, List.getElem?_eq_getElem (by omega)⟩
    obtain ⟨g, off, rfl, _, hc⟩ := h (by omega)
    have hcx := hc _ _ hx
    have hxb : x < 4294967296 := hL.at hx
    have Hx := Lib.hid (lm_at hx)
    have hd : decide ((n : Int) ≤ (i : Int)) = false := decide_eq_false (by omega)
    clear hx hc hn
    go_enter Tryz.func95, Tryz.ntmps95
    go_wp2
    go_ret
    rw [Hx.out]
    exact ⟨rfl, rfl⟩
  · have Hx := Lib.hid (lm_out (l := l) (i := i) (by omega))
    have hd : decide ((n : Int) ≤ (i : Int)) = true := decide_eq_true (by omega)
    clear hn
    go_enter Tryz.func95, Tryz.ntmps95
    go_wp2
    go_ret
    rw [Hx.out]
    exact ⟨rfl, rfl⟩

/-- append of a slice without elements, nil or not, to a row of the call's own -/
theorem run_append_nothing {P : Program} (w : World) (base : Nat) (t ty e : TypeId) (i : TypeInfo) (ht : P.underlying t = some (.slice e)) (hi : P.info? e = some i)
    (v : Value) (n : Nat) (xs : List Value) (hown : w.ownsRow base e 1 v n xs) (c : Nat) : (Builtin.append_ #[t, t] ty #[v, .slice none 0 c]).run P w = .ok v w := by
  rcases hown.2 with ⟨rfl, rfl⟩ | ⟨g, cap, cur, rfl, _, _, hnc, _⟩
  · simp [Builtin.append_, run_underlying ht, sizeOf, typeInfo, hi, Builtin.lenOf, Builtin.firstCells]
  · simp [Builtin.append_, run_underlying ht, sizeOf, typeInfo, hi, Builtin.lenOf, Builtin.firstCells, hnc, storeCells]
theorem wpList_append_u32 {P : Program} {w : World} {ops : Array Oper} {rest : List Oper} {o : Oper} {a : Act} {Q : Exit → Act → World → Prop} (hgd : o.guard = none) (s x : Operand) (t : TypeId)
    (ho : o.op = .call { callee := .builtin .append, args := #[s, x], argTypes := #[t, t] }) (base : Nat) (e : TypeId) (i : TypeInfo) (ht : P.underlying t = some (.slice e)) (hi : P.info? e = some i) (hz : i.zero = some (.int .u32 0)) (hsize : i.size = 1) (hby : i.bytes = 4)
    (v : Value) (l : List Nat) (hs : a.eval s = v) (hrow : w.ownsRow base e 1 v l.length (l.map Lv)) (A : Option Addr) (m c : Nat) (news : List Nat) (hx : a.eval x = .slice A m c) (hm : news.length = m) (S : Nat → Prop) (hcel : Cel w S A news)
    (hb : l.length + m ≤ 1000000) (hbase : base ≤ w.heap.size)
    (h : ∀ v' w', w'.ownsRow base e 1 v' (l ++ news).length ((l ++ news).map Lv) → w.grownBy w' v.ownBlock → wpList P ops Q rest (a.put o.dst v') w') : wpList P ops Q (o :: rest) a w := by
  subst hm
  rcases A with _ | ad
  · have h0 : news = [] := by
      rcases Nat.eq_zero_or_pos news.length with h0 | h0
      · exact List.eq_nil_of_length_eq_zero h0
      · obtain ⟨g, off, e, _⟩ := hcel h0
        cases e
    subst h0
    refine wpList_plain hgd fun K hK => ?_
    have hr := run_append_nothing (P := P) w base t o.type e i ht hi v _ _ hrow c
    unfold Oper.wp execOp
    simp only [ho, resolve, invoke, builtin, Sem.run_bind, Sem.run_pure, Result.andThen_ok, List.map_toArray, List.map_cons, List.map_nil, hs, hx, List.length_nil, hr]
    exact hK _ _ (h v w (by simpa using hrow) (only_refl _ _))
  · refine wpList_append_own (P := P) w hgd s x t ho base e i (.int .u32 0) 1 4 ht hi hz hsize hby rfl (by decide) v l.length (l.map Lv) hs hrow ad news.length c (news.map Lv) hx (by simp) ?_ ?_ (by unfold maxLen; omega) (by omega) hbase ?_
    · intro j u hu
      rw [List.getElem?_map] at hu
      cases hn : news[j]? with
      | none => rw [hn] at hu; cases hu
      | some y =>
        rw [hn] at hu
        injection hu with hu
        have hlt := (List.getElem?_eq_some_iff.1 hn).1
        obtain ⟨g, off, e, _, hc⟩ := hcel (by omega)
        injection e with e
        subst e
        rw [← hu, show (⟨g, off, none⟩ : Addr).add j = ⟨g, off + j, none⟩ from by unfold Addr.add; split <;> simp_all]
        exact hc j y hn
    · intro u hu
      obtain ⟨y, _, rfl⟩ := List.mem_map.1 hu
      rfl
    · intro v' w' hown' hg _
      exact h v' w' (by rw [List.length_append, List.map_append]; exact hown') hg

/-- A call returns the number m in a block of its own, or nil. -/
def NumNew (m : Nat) (w : World) (e : Ending) (w' : World) : Prop := ∃ v, e = .returned v ∧ ∃ l, Rd w' (fun g => w.heap.size ≤ g) v l ∧ Num.Nrm l ∧ Num.val l = m ∧ Below w.heap.size w w'
theorem NumNew.fin {m : Nat} {w w' : World} {e : Ending} (h : NumNew m w e w') : NumEnd m w e w' := by
  obtain ⟨v, he, l, h1, h2, h3, h4⟩ := h
  exact ⟨v, he, l, h1.mono (fun _ _ => trivial), h2, h3, h4⟩
set_option maxRecDepth 4000 in
set_option maxHeartbeats 1000000 in
theorem rnorm_walk (va : Value) (la : List Nat) (w : World) (ha : Rd w (fun _ => True) va la) (hla : la.length ≤ 100000) :
    Calls Tryz.prog 80 #[va] w (NumNew (Num.val la) w) := by
  obtain ⟨i0, hi, hz0, hz1, hz2⟩ := info_parts info_u32
  obtain ⟨A, n, c, rfl, Hn, hlc, hc, HLa, h⟩ := ha.open_
  have hnb : n ≤ 100000 := by have := Hn.out; omega
  clear ha hla
  go_enter Tryz.func80, Tryz.ntmps80
  go_wp2
  go_loop [3] (fun i => ∃ k : Nat, k ≤ n ∧ i = .int .i64 k ∧ Num.Zer la k) (fun i => (intOf i).toNat)
  case atStart => exact ⟨n, Nat.le_refl _, rfl, by rw [← Hn.out]; exact Num.Zer.top la⟩
  case round =>
    obtain ⟨k, hk, rfl, hz⟩ := hrel
    have fin : Num.Nrm (la.take k) → ∀ v w', Row w' w.heap.size v (la.take k) → w.grownBy w' none → NumNew (Num.val la) w (.returned v) w' := fun hN v w' hrow hg =>
      ⟨v, rfl, la.take k, hrow.rd (HLa.out.take k), hN, hz.val (by have := Hn.out; omega), ⟨hg.os, hg.tape, hg.output, hg.size, fun i hi => hg.block i hi (by simp)⟩⟩
    have Fin := Lib.hid fin
    have hcel := h.take k
    have Lk : Hid ((la.take k).length = k) := by show _ = _; have := Hn.out; rw [List.length_take]; omega
    clear fin
    by_cases h0 : k = 0
    · have h0' : ¬ 0 < k := by omega
      have hN : Hid (Num.Nrm (la.take k)) := by rw [h0]; exact Num.nrm_take_zero la
      clear h0
      go_wp2_with (at_builtin; refine wpList_append_u32 rfl (.tmp 19) (.tmp 22) 23 rfl w.heap.size 45 i0 Tryz.underlying23 hi hz0 hz1 hz2 _ [] rfl (World.ownsRow_nil _ _ _ 1) A k c (la.take k) rfl Lk.out (fun _ => True) hcel (by simp; omega) (Nat.le_refl _) ?_; intro v' w' hrow' hg')
      go_ret
      exact Fin.out hN.out _ _ hrow' hg'
    · have h0' : 0 < k := by omega
      have hkl : k - 1 < la.length := by have := Hn.out; omega
      obtain ⟨g, off, rfl, _, hcs⟩ := h (by omega)
      obtain ⟨x, hx⟩ : ∃ x, la[k - 1]? = some x := ⟨_, List.getElem?_eq_getElem hkl⟩
      have hcell := hcs _ _ hx
      have Hx := Lib.hid hx
      clear hx h0 hcs hkl
      by_cases hx0 : x = 0
      · subst hx0
        go_wp2
        go_round
        case rel => exact ⟨k - 1, by omega, by go_num, Num.Zer.step (by rw [show k - 1 + 1 = k from by omega]; exact hz) Hx.out⟩
        case measure => simp [intOf]; omega
      · have hxb : ((x : Int) == 0) = false := by simp; omega
        have hN : Hid (Num.Nrm (la.take k)) := by have := Num.nrm_take_of Hx.out hx0; rwa [show k - 1 + 1 = k from by omega] at this
        go_wp2_with (at_builtin; refine wpList_append_u32 rfl (.tmp 19) (.tmp 22) 23 rfl w.heap.size 45 i0 Tryz.underlying23 hi hz0 hz1 hz2 _ [] rfl (World.ownsRow_nil _ _ _ 1) _ k c (la.take k) rfl Lk.out (fun _ => True) hcel (by simp; omega) (Nat.le_refl _) ?_; intro v' w' hrow' hg')
        go_ret
        exact Fin.out hN.out _ _ hrow' hg'

/-- One limb more, laid in a block of its own and appended. -/
theorem lit_cel (W : World) (x : Nat) (z : Int) (hz : z = (x : Int)) : Cel (W.alloc (.cells #[.int .u32 z] 45)) (fun _ => True) (some ⟨W.heap.size, 0, none⟩) [x] := fun _ => by
  subst hz
  exact ⟨_, 0, rfl, trivial, (Own.new W 45 [x]).cel⟩

/-- The loop of Of. -/
def OfInv (n : Nat) (w : World) (gk : Nat) (x y : Value) (wr : World) : Prop :=
  ∃ l, x = .int .u64 (gk : Int) ∧ gk < 18446744073709551616 ∧ Row wr w.heap.size y l ∧ Num.Lim l ∧ Num.val l + Num.K ^ l.length * gk = n ∧ (gk = 0 → Num.Nrm l) ∧ l.length ≤ 2 ∧ (gk ≠ 0 → l.length ≤ 1 ∧ (l.length = 1 → gk < 4294967296)) ∧ Below w.heap.size w wr
set_option maxRecDepth 4000 in
set_option maxHeartbeats 1000000 in
theorem rof_walk (n : Nat) (w : World) (hn : n < 18446744073709551616) : Calls Tryz.prog 47 #[.int .u64 (n : Int)] w (NumEnd n w) := by
  obtain ⟨i0, hi, hz0, hz1, hz2⟩ := info_parts info_u32
  go_enter Tryz.func47, Tryz.ntmps47
  go_wp2
  go_loopg [0, 3] n (fun gk x y wr => OfInv n w gk x y wr)
  case atStart => exact ⟨[], rfl, hn, Row.nil _ _, Num.Lim.nil, by simp [Num.val], fun _ => Num.Nrm.nil, by simp, fun _ => ⟨by simp, fun h => by simp at h⟩, Below.refl _ _⟩
  case round =>
    obtain ⟨l, rfl, hgb, hrow, hL, hv, hN, hlen, hlen1, hbl⟩ := hrel
    have HL := Lib.hid hL
    have Hv := Lib.hid hv
    have HN := Lib.hid hN
    have Hlen1 := Lib.hid hlen1
    have hbs := hbl.size
    clear hL hv hN hlen1
    by_cases h0 : 0 < gk
    · have hrow1 : wr.ownsRow w.heap.size 45 1 _ l.length (l.map Lv) := hrow
      go_wp2_with (at_builtin; refine wpList_append_u32 rfl (.tmp 6) (.tmp 10) 23 rfl w.heap.size 45 i0 Tryz.underlying23 hi hz0 hz1 hz2 _ l rfl (hrow1.alloc _) _ 1 1 [gk % 4294967296] rfl rfl (fun _ => True) (lit_cel wr (gk % 4294967296) _ (by omega)) (by omega) (by simp; omega) ?_; intro v' w' hrow' hg')
      go_roundg (gk / 4294967296)
      case measure => omega
      case rel =>
        have hg2 := only_trans (World.grownBy_alloc wr _ _) hg'
        refine ⟨l ++ [gk % 4294967296], by go_num, by omega, hrow', HL.out.append (lim1 _ (Nat.mod_lt _ (by omega))), ?_, ?_, ?_, ?_, hbl.grown hg2 hbs (fun b hb => (hrow.lt b hb).1)⟩
        · have h1 := Hv.out
          rw [Num.val_snoc, List.length_append]
          show _ + Num.K ^ (l.length + 1) * _ = _
          have h2 : gk % 4294967296 + Num.K * (gk / 4294967296) = gk := by rw [Num.K_eq]; omega
          have h3 := congrArg (Num.K ^ l.length * ·) h2
          simp only [Nat.mul_add, ← Nat.mul_assoc] at h3
          rw [Nat.pow_succ]
          omega
        · intro h
          unfold Num.Nrm
          rw [List.getLast?_append]
          simp
          omega
        · have := Hlen1.out (by omega)
          simp
          omega
        · intro h
          have := Hlen1.out (by omega)
          have h4 : l.length = 0 := by
            rcases Nat.eq_zero_or_pos l.length with h5 | h5
            · exact h5
            · have := this.2 (by omega)
              omega
          rw [List.length_append, h4]
          exact ⟨Nat.le_refl _, fun _ => by omega⟩
    · have hg0 : gk = 0 := by omega
      go_wp2
      go_ret
      subst hg0
      have h1 := Hv.out
      rw [Nat.mul_zero, Nat.add_zero] at h1
      exact ⟨_, rfl, l, (hrow.rd HL.out).mono (fun _ _ => trivial), HN.out rfl, h1, hbl⟩
end Go.Proofs.YtohlilgnognmgaaGreatDoor
/-
  The walks of garmentref01.Cmp, Add and Sub.
-/
namespace Go.Proofs.YtohlilgnognmgaaGreatDoor
open Go.RowKit

theorem drop_lm (l : List Nat) (k : Nat) : Num.val (l.drop k) = lm l k + Num.K * Num.val (l.drop (k + 1)) := by
  cases h : l[k]? with
  | none =>
    have hk : l.length ≤ k := by simpa using h
    rw [lm_out hk, List.drop_of_length_le hk, List.drop_of_length_le (by omega)]
    simp [Num.val]
  | some x => rw [lm_at h, drop_cons h, Num.val_cons]
theorem val_td (l : List Nat) (k : Nat) : Num.val l = Num.val (l.take k) + Num.K ^ k * Num.val (l.drop k) := by
  rcases Nat.lt_or_ge l.length k with h | h
  · rw [List.take_of_length_le (by omega), List.drop_of_length_le (by omega)]
    simp [Num.val]
  · exact Num.val_split l k h
theorem take_lt (l : List Nat) (hL : Num.Lim l) (k : Nat) : Num.val (l.take k) < Num.K ^ k :=
  Nat.lt_of_lt_of_le (Num.val_lt _ (hL.take k)) (Nat.pow_le_pow_right Num.K_pos (by rw [List.length_take]; omega))
theorem lm_less {la lb : List Nat} {k : Nat} (hL : Num.Lim la) (ht : Num.val (la.drop (k + 1)) = Num.val (lb.drop (k + 1))) (h : lm la k < lm lb k) : Num.val la < Num.val lb := by
  rw [val_td la k, val_td lb k, drop_lm la k, drop_lm lb k, ht]
  exact cmp_at _ _ _ _ _ _ (take_lt la hL k) h
theorem int_i64 {a b : Int} (h : a = b) : Value.int .i64 a = .int .i64 b := by rw [h]

set_option maxRecDepth 4000 in
set_option maxHeartbeats 1000000 in
theorem rcmp_walk (va vb : Value) (la lb : List Nat) (w : World) (ha : Rd w (fun _ => True) va la) (hb : Rd w (fun _ => True) vb lb) (hla : la.length ≤ 100000) (hlb : lb.length ≤ 100000) :
    Calls Tryz.prog 110 #[va, vb] w fun e w' => e = .returned (.int .i64 (cmpI (Num.val la) (Num.val lb))) ∧ w = w' := by
  obtain ⟨A, n, c, rfl, Hn, hnc, hc, HLa, hA⟩ := ha.open_
  obtain ⟨B, m, d, rfl, Hm, hmd, hd, HLb, hB⟩ := hb.open_
  have hn : n ≤ 100000 := by have := Hn.out; omega
  have hm : m ≤ 100000 := by have := Hm.out; omega
  clear ha hb hla hlb
  go_enter Tryz.func110, Tryz.ntmps110
  go_wp2
  go_loop [5] (fun i => ∃ k : Nat, k ≤ 100000 ∧ i = .int .i64 ((k : Int) - 1) ∧ Hid (Num.val (la.drop k) = Num.val (lb.drop k))) (fun i => (intOf i + 1).toNat)
  case atStart => exact ⟨max n m, by omega, int_i64 (by omega), by show _ = _; rw [List.drop_of_length_le (by have := Hn.out; omega), List.drop_of_length_le (by have := Hm.out; omega)]⟩
  case round =>
    obtain ⟨k, hk, rfl, Ht⟩ := hrel
    by_cases h0 : k = 0
    · have hk0 : ¬ 0 ≤ (k : Int) - 1 := by omega
      have Hk := Lib.hid h0
      clear h0
      go_wp2
      go_ret
      have h1 := Ht.out
      rw [Hk.out, List.drop_zero, List.drop_zero] at h1
      rw [cmpI_eq h1]
      exact ⟨rfl, rfl⟩
    · obtain ⟨k, rfl⟩ : ∃ j, k = j + 1 := ⟨k - 1, by omega⟩
      have hk0 : 0 ≤ ((k + 1 : Nat) : Int) - 1 := by omega
      clear h0
      have hxb := lm_lt HLa.out k
      have hyb := lm_lt HLb.out k
      obtain ⟨x, hx⟩ : ∃ x, x = lm la k := ⟨_, rfl⟩
      obtain ⟨y, hy⟩ : ∃ y, y = lm lb k := ⟨_, rfl⟩
      have L1 := Lib.hid (fun w => limb_walk A n c k la w Hn.out (by omega) (by omega) HLa.out)
      have L2 := Lib.hid (fun w => limb_walk B m d k lb w Hm.out (by omega) (by omega) HLb.out)
      rw [← hx] at hxb L1
      rw [← hy] at hyb L2
      have Hx := Lib.hid hx
      have Hy := Lib.hid hy
      clear hx hy
      rcases Nat.lt_trichotomy x y with hlt | heq | hgt
      · have hz : (x : Int) < (y : Int) := by omega
        go_wp2_with fail
        refine (L1.out _ hA).mono ?_
        rintro e w' ⟨rfl, rfl⟩
        go_wp2_with fail
        refine (L2.out _ hB).mono ?_
        rintro e w' ⟨rfl, rfl⟩
        go_wp2
        go_ret
        rw [cmpI_lt (lm_less HLa.out Ht.out (by rw [← Hx.out, ← Hy.out]; exact hlt))]
        exact ⟨rfl, rfl⟩
      · have hz1 : ¬ (x : Int) < (y : Int) := by omega
        have hz2 : ¬ (y : Int) < (x : Int) := by omega
        have Heq := Lib.hid heq
        clear heq
        go_wp2_with fail
        refine (L1.out _ hA).mono ?_
        rintro e w' ⟨rfl, rfl⟩
        go_wp2_with fail
        refine (L2.out _ hB).mono ?_
        rintro e w' ⟨rfl, rfl⟩
        go_wp2_with fail
        refine (L1.out _ hA).mono ?_
        rintro e w' ⟨rfl, rfl⟩
        go_wp2_with fail
        refine (L2.out _ hB).mono ?_
        rintro e w' ⟨rfl, rfl⟩
        go_wp2
        go_round
        case rel => exact ⟨k, by omega, by go_num, by show _ = _; rw [drop_lm la k, drop_lm lb k, Ht.out, ← Hx.out, ← Hy.out, Heq.out]⟩
        case measure => simp [intOf] <;> omega
      · have hz1 : ¬ (x : Int) < (y : Int) := by omega
        have hz2 : (y : Int) < (x : Int) := by omega
        go_wp2_with fail
        refine (L1.out _ hA).mono ?_
        rintro e w' ⟨rfl, rfl⟩
        go_wp2_with fail
        refine (L2.out _ hB).mono ?_
        rintro e w' ⟨rfl, rfl⟩
        go_wp2_with fail
        refine (L1.out _ hA).mono ?_
        rintro e w' ⟨rfl, rfl⟩
        go_wp2_with fail
        refine (L2.out _ hB).mono ?_
        rintro e w' ⟨rfl, rfl⟩
        go_wp2
        go_ret
        rw [cmpI_gt (lm_less HLb.out Ht.out.symm (by rw [← Hx.out, ← Hy.out]; exact hgt))]
        exact ⟨rfl, rfl⟩

/-- The loop of Add. -/
def RaInv (n m : Nat) (la lb : List Nat) (w : World) (gk : Nat) (y cy i : Value) (wr : World) : Prop :=
  ∃ (k cr : Nat) (l : List Nat), gk = max n m + 2 - k ∧ k ≤ max n m + 1 ∧ i = .int .i64 (k : Int) ∧ cy = .int .u64 (cr : Int) ∧ cr ≤ 1 ∧ (k = max n m + 1 → cr = 0) ∧ Row wr w.heap.size y l ∧ Num.Lim l ∧ l.length = k ∧
    Num.val l + Num.K ^ k * cr = Num.val (la.take k) + Num.val (lb.take k) ∧ Below w.heap.size w wr
theorem ra_num (R P K cr L B x y t d c' : Nat) (hv : R + P * cr = L + B) (ht : t = x + y + cr) (hd : d + K * c' = t) : R + P * d + P * K * c' = L + P * x + (B + P * y) := by
  subst ht
  have h := congrArg (P * ·) hd
  simp only [Nat.mul_add, ← Nat.mul_assoc] at h ⊢
  omega

set_option maxRecDepth 4000 in
set_option maxHeartbeats 2000000 in
theorem radd_walk (va vb : Value) (la lb : List Nat) (w : World) (ha : Rd w (fun _ => True) va la) (hb : Rd w (fun _ => True) vb lb) (hla : la.length ≤ 10000) (hlb : lb.length ≤ 10000) :
    Calls Tryz.prog 61 #[va, vb] w (NumNew (Num.val la + Num.val lb) w) := by
  obtain ⟨i0, hi, hz0, hz1, hz2⟩ := info_parts info_u32
  obtain ⟨A, n, c, rfl, Hn, hnc, hc, HLa, hA⟩ := ha.open_
  obtain ⟨B, m, d, rfl, Hm, hmd, hd, HLb, hB⟩ := hb.open_
  have hn : n ≤ 10000 := by have := Hn.out; omega
  have hm : m ≤ 10000 := by have := Hm.out; omega
  have HA := Lib.hid hA
  have HB := Lib.hid hB
  clear ha hb hla hlb hA hB
  go_enter Tryz.func61, Tryz.ntmps61
  go_wp2
  go_loopg [5, 6, 7] (max n m + 2) (fun gk y cy i wr => RaInv n m la lb w gk y cy i wr)
  case atStart => exact ⟨0, 0, [], rfl, by omega, rfl, rfl, by omega, by omega, Row.nil _ _, Num.Lim.nil, rfl, by simp [Num.val], Below.refl _ _⟩
  case round =>
    obtain ⟨k, cr, l, hgk, hk, rfl, rfl, hcr, hlast, hrow, hL, hlk, hv, hbl⟩ := hrel
    have Hgk := Lib.hid hgk
    have Hlast := Lib.hid hlast
    have HL := Lib.hid hL
    have Hlk := Lib.hid hlk
    have Hv := Lib.hid hv
    have hbs := hbl.size
    clear hgk hlast hL hlk hv
    by_cases hgo : k < max n m ∨ 0 < cr
    · have hkk : k ≤ max n m := by
        rcases Nat.lt_or_ge (max n m) k with h | h
        · have := Hlast.out (by omega); omega
        · exact h
      have hxb := lm_lt HLa.out k
      have hyb := lm_lt HLb.out k
      obtain ⟨x, hx⟩ : ∃ x, x = lm la k := ⟨_, rfl⟩
      obtain ⟨y, hy⟩ : ∃ y, y = lm lb k := ⟨_, rfl⟩
      have L1 := Lib.hid (fun w => limb_walk A n c k la w Hn.out (by omega) (by omega) HLa.out)
      have L2 := Lib.hid (fun w => limb_walk B m d k lb w Hm.out (by omega) (by omega) HLb.out)
      rw [← hx] at hxb L1
      rw [← hy] at hyb L2
      have Hx := Lib.hid hx
      have Hy := Lib.hid hy
      have hA1 := HA.out.below' hbl
      have hB1 := HB.out.below' hbl
      have hrow1 : wr.ownsRow w.heap.size 45 1 _ l.length (l.map Lv) := hrow
      have hlen : l.length ≤ 20000 := by have := Hlk.out; omega
      clear hx hy
      have htest : (decide ((k : Int) < max (n : Int) (m : Int)) || decide (0 < (cr : Int))) = true := by simp; omega
      by_cases hd1 : (k : Int) < max (n : Int) (m : Int)
      all_goals
        go_wp2_with fail
        refine (L1.out _ hA1).mono ?_
        rintro e w' ⟨rfl, rfl⟩
        go_wp2_with fail
        refine (L2.out _ hB1).mono ?_
        rintro e w' ⟨rfl, rfl⟩
        go_wp2_with (at_builtin; refine wpList_append_u32 rfl (.tmp 31) (.tmp 35) 23 rfl w.heap.size 45 i0 Tryz.underlying23 hi hz0 hz1 hz2 _ l rfl (hrow1.alloc _) _ 1 1 [(x + y + cr) % 4294967296] rfl rfl (fun _ => True) (lit_cel wr ((x + y + cr) % 4294967296) _ (by omega)) (by omega) (by simp; omega) ?_; intro v' w' hrow' hg')
        go_roundg (max n m + 2 - (k + 1))
        case measure => have := Hgk.out; omega
        case rel =>
          have hg2 := only_trans (World.grownBy_alloc wr _ _) hg'
          refine ⟨k + 1, (x + y + cr) / 4294967296, l ++ [(x + y + cr) % 4294967296], rfl, by omega, by go_num, int_u64 (by omega), by omega, ?_, hrow', HL.out.append (lim1 _ (Nat.mod_lt _ (by omega))), by simp; exact Hlk.out, ?_, hbl.grown hg2 hbs (fun b hb => (hrow.lt b hb).1)⟩
          · intro h
            have e1 : x = 0 := by rw [Hx.out]; exact lm_out (by have := Hn.out; omega)
            have e2 : y = 0 := by rw [Hy.out]; exact lm_out (by have := Hm.out; omega)
            omega
          · rw [Num.val_snoc, Hlk.out, take_lm la k, take_lm lb k, ← Hx.out, ← Hy.out, Nat.pow_succ]
            exact ra_num _ _ _ _ _ _ _ _ _ _ _ Hv.out rfl (Nat.mod_add_div _ _)
    · have hk1 : ¬ (k : Int) < max (n : Int) (m : Int) := by omega
      have hc0 : cr = 0 := by omega
      subst hc0
      have hkn : n ≤ k ∧ m ≤ k := by omega
      have hrd : Rd wr (fun _ => True) _ l := (hrow.rd HL.out).mono (fun _ _ => trivial)
      go_wp2_with fail
      refine (rnorm_walk _ l wr hrd (by have := Hlk.out; omega)).mono ?_
      rintro e w1 ⟨v, rfl, l1, hr1, hn1, hv1, hb1⟩
      go_wp2
      go_ret
      refine ⟨v, rfl, l1, hr1.mono (fun _ h => Nat.le_trans hbs h), hn1, ?_, hbl.trans (hb1.mono hbs)⟩
      have h1 := Hv.out
      rw [Nat.mul_zero, Nat.add_zero, List.take_of_length_le (by have := Hn.out; omega), List.take_of_length_le (by have := Hm.out; omega)] at h1
      rw [hv1, h1]

/-- The loop of Sub. -/
def RsInv (n m : Nat) (la lb : List Nat) (w : World) (gk : Nat) (y cy i : Value) (wr : World) : Prop :=
  ∃ (k br : Nat) (l : List Nat), gk = max n m - k ∧ k ≤ max n m ∧ i = .int .i64 (k : Int) ∧ cy = .int .u64 (br : Int) ∧ br ≤ 1 ∧ Row wr w.heap.size y l ∧ Num.Lim l ∧ l.length = k ∧
    Num.val l + Num.val (lb.take k) = Num.val (la.take k) + Num.K ^ k * br ∧ Below w.heap.size w wr

set_option maxRecDepth 4000 in
set_option maxHeartbeats 2000000 in
theorem rsub_lt (va vb : Value) (la lb : List Nat) (w : World) (ha : Rd w (fun _ => True) va la) (hb : Rd w (fun _ => True) vb lb) (hla : la.length ≤ 10000) (hlb : lb.length ≤ 10000) (hlt : Num.val la < Num.val lb) :
    Calls Tryz.prog 93 #[va, vb] w fun e w' => e = .returned (.tuple #[.slice none 0 0, .bool false]) ∧ w = w' := by
  have Hc := Lib.hid (cmpI_lt hlt)
  go_enter Tryz.func93, Tryz.ntmps93
  go_wp2_with fail
  refine (rcmp_walk va vb la lb _ ha hb (by omega) (by omega)).mono ?_
  rintro e w' ⟨he, rfl⟩
  rw [Hc.out] at he
  subst he
  go_wp2
  go_ret2
  exact ⟨rfl, rfl⟩
/-- Sub returns the number and true. -/
def SubNew (m : Nat) (w : World) (e : Ending) (w' : World) : Prop := ∃ v, e = .returned (.tuple #[v, .bool true]) ∧ ∃ l, Rd w' (fun g => w.heap.size ≤ g) v l ∧ Num.Nrm l ∧ Num.val l = m ∧ Below w.heap.size w w'
set_option maxRecDepth 4000 in
set_option maxHeartbeats 2000000 in
theorem rsub_ge (va vb : Value) (la lb : List Nat) (w : World) (ha : Rd w (fun _ => True) va la) (hb : Rd w (fun _ => True) vb lb) (hla : la.length ≤ 10000) (hlb : lb.length ≤ 10000) (hge : Num.val lb ≤ Num.val la) :
    Calls Tryz.prog 93 #[va, vb] w (SubNew (Num.val la - Num.val lb) w) := by
  have Hge := Lib.hid hge
  obtain ⟨ci, hci0, hci⟩ : ∃ ci : Int, 0 ≤ ci ∧ cmpI (Num.val la) (Num.val lb) = ci := by
    rcases Nat.lt_or_ge (Num.val lb) (Num.val la) with h | h
    · exact ⟨_, by rw [cmpI_gt h]; omega, rfl⟩
    · exact ⟨_, by rw [cmpI_eq (by omega)]; omega, rfl⟩
  have Hci := Lib.hid hci
  have ha0 := ha
  have hb0 := hb
  obtain ⟨i0, hi, hz0, hz1, hz2⟩ := info_parts info_u32
  obtain ⟨A, n, c, rfl, Hn, hnc, hc, HLa, hA⟩ := ha.open_
  obtain ⟨B, m, d, rfl, Hm, hmd, hd, HLb, hB⟩ := hb.open_
  have hn : n ≤ 10000 := by have := Hn.out; omega
  have hm : m ≤ 10000 := by have := Hm.out; omega
  have HA := Lib.hid hA
  have HB := Lib.hid hB
  have Ha0 := Lib.hid ha0
  have Hb0 := Lib.hid hb0
  clear ha hb hla hlb hA hB hge hci ha0 hb0
  go_enter Tryz.func93, Tryz.ntmps93
  go_wp2_with fail
  refine (rcmp_walk _ _ la lb _ Ha0.out Hb0.out (by have := Hn.out; omega) (by have := Hm.out; omega)).mono ?_
  rintro e w' ⟨he, rfl⟩
  rw [Hci.out] at he
  subst he
  go_wp2
  go_loopg [6, 7, 8] (max n m) (fun gk y cy i wr => RsInv n m la lb w gk y cy i wr)
  case atStart => exact ⟨0, 0, [], rfl, by omega, rfl, rfl, by omega, Row.nil _ _, Num.Lim.nil, rfl, by simp [Num.val], Below.refl _ _⟩
  case round =>
    obtain ⟨k, br, l, hgk, hk, rfl, rfl, hbr, hrow, hL, hlk, hv, hbl⟩ := hrel
    have Hgk := Lib.hid hgk
    have HL := Lib.hid hL
    have Hlk := Lib.hid hlk
    have Hv := Lib.hid hv
    have hbs := hbl.size
    clear hgk hL hlk hv
    by_cases hgo : k < max n m
    · have hxb := lm_lt HLa.out k
      have hyb := lm_lt HLb.out k
      obtain ⟨x, hx⟩ : ∃ x, x = lm la k := ⟨_, rfl⟩
      obtain ⟨y, hy⟩ : ∃ y, y = lm lb k := ⟨_, rfl⟩
      have L1 := Lib.hid (fun w => limb_walk A n c k la w Hn.out (by omega) (by omega) HLa.out)
      have L2 := Lib.hid (fun w => limb_walk B m d k lb w Hm.out (by omega) (by omega) HLb.out)
      rw [← hx] at hxb L1
      rw [← hy] at hyb L2
      have Hx := Lib.hid hx
      have Hy := Lib.hid hy
      have hA1 := HA.out.below' hbl
      have hB1 := HB.out.below' hbl
      have hrow1 : wr.ownsRow w.heap.size 45 1 _ l.length (l.map Lv) := hrow
      have hlen : l.length ≤ 20000 := by have := Hlk.out; omega
      clear hx hy
      have hd1 : (k : Int) < max (n : Int) (m : Int) := by omega
      go_wp2_with fail
      refine (L1.out _ hA1).mono ?_
      rintro e w' ⟨rfl, rfl⟩
      go_wp2_with fail
      refine (L2.out _ hB1).mono ?_
      rintro e w' ⟨rfl, rfl⟩
      go_wp2_with (at_builtin; refine wpList_append_u32 rfl (.tmp 33) (.tmp 37) 23 rfl w.heap.size 45 i0 Tryz.underlying23 hi hz0 hz1 hz2 _ l rfl (hrow1.alloc _) _ 1 1 [(4294967296 + x - y - br) % 4294967296] rfl rfl (fun _ => True) (lit_cel wr ((4294967296 + x - y - br) % 4294967296) _ (by omega)) (by omega) (by simp; omega) ?_; intro v' w' hrow' hg')
      go_roundg (max n m - (k + 1))
      case measure => have := Hgk.out; omega
      case rel =>
        have hg2 := only_trans (World.grownBy_alloc wr _ _) hg'
        refine ⟨k + 1, 1 - (4294967296 + x - y - br) / 4294967296, l ++ [(4294967296 + x - y - br) % 4294967296], rfl, by omega, by go_num, int_u64 (by omega), by omega, hrow', HL.out.append (lim1 _ (Nat.mod_lt _ (by omega))), by simp; exact Hlk.out, ?_, hbl.grown hg2 hbs (fun b hb => (hrow.lt b hb).1)⟩
        rw [Num.val_snoc, Hlk.out, take_lm la k, take_lm lb k, ← Hx.out, ← Hy.out, Nat.pow_succ]
        exact sub_num _ _ _ _ _ _ _ _ _ _ Hv.out (by rw [Num.K_eq]; omega)
    · have hk1 : ¬ (k : Int) < max (n : Int) (m : Int) := by omega
      have hkn : n ≤ k ∧ m ≤ k := by omega
      have hrd : Rd wr (fun _ => True) _ l := (hrow.rd HL.out).mono (fun _ _ => trivial)
      go_wp2_with fail
      refine (rnorm_walk _ l wr hrd (by have := Hlk.out; omega)).mono ?_
      rintro e w1 ⟨v, rfl, l1, hr1, hn1, hv1, hb1⟩
      go_wp2
      go_ret2
      refine ⟨v, rfl, l1, hr1.mono (fun _ h => Nat.le_trans hbs h), hn1, ?_, hbl.trans (hb1.mono hbs)⟩
      have h1 := Hv.out
      rw [List.take_of_length_le (l := la) (by have := Hn.out; omega), List.take_of_length_le (l := lb) (by have := Hm.out; omega)] at h1
      have h2 := Num.val_lt l HL.out
      rw [Hlk.out] at h2
      rw [hv1]
      exact no_borrow _ _ _ _ _ h1 Hge.out h2
end Go.Proofs.YtohlilgnognmgaaGreatDoor
/-
  The contracts of the reference's functions and of Norm and Of, said of numbers.
-/
namespace Go.Proofs.YtohlilgnognmgaaGreatDoor
open Go.RowKit

/-- The slice v reads in blocks of S as the number m, in normal form and at most k limbs. -/
def Ns (w : World) (S : Nat → Prop) (v : Value) (m k : Nat) : Prop := ∃ l, Rd w S v l ∧ Num.Nrm l ∧ Num.val l = m ∧ l.length ≤ k
theorem Ns.nz {w : World} {S : Nat → Prop} {v : Value} {m k : Nat} (h : Ns w S v m k) : Nz w v m k := by
  obtain ⟨l, h1, h2, h3, h4⟩ := h
  exact ⟨l, h1.mono (fun _ _ => trivial), h2, h3, h4⟩
theorem Ns.mono {w : World} {S S' : Nat → Prop} {v : Value} {m k : Nat} (h : Ns w S v m k) (hS : ∀ g, S g → S' g) : Ns w S' v m k := by
  obtain ⟨l, h1, h2, h3, h4⟩ := h
  exact ⟨l, h1.mono hS, h2, h3, h4⟩
theorem Ns.old {w : World} {S : Nat → Prop} {v : Value} {m k : Nat} (h : Ns w S v m k) : Ns w (fun g => S g ∧ g < w.heap.size) v m k := by
  obtain ⟨l, h1, h2, h3, h4⟩ := h
  exact ⟨l, h1.old, h2, h3, h4⟩
theorem Ns.below {w w' : World} {S : Nat → Prop} {v : Value} {m k : Nat} (h : Ns w S v m k) (hb : Below w.heap.size w w') : Ns w' S v m k := by
  obtain ⟨l, h1, h2, h3, h4⟩ := h
  exact ⟨l, h1.below hb, h2, h3, h4⟩
theorem Ns.only {w w' : World} {g : Nat} {v : Value} {m k : Nat} (h : Ns w (· ≠ g) v m k) (hb : w.grownBy w' (some g)) : Ns w' (· ≠ g) v m k := by
  obtain ⟨l, h1, h2, h3, h4⟩ := h
  obtain ⟨A, c, e, e1, e2, e3, e4⟩ := h1
  exact ⟨l, ⟨A, c, e, e1, e2, e3, e4.only (fun _ h => h) hb⟩, h2, h3, h4⟩
/-- A call returns the number m in a block of its own, or nil; at most k limbs. -/
def NsEnd (m k : Nat) (w : World) (e : Ending) (w' : World) : Prop := ∃ v, e = .returned v ∧ Ns w' (fun g => w.heap.size ≤ g) v m k ∧ Below w.heap.size w w'
theorem NsEnd.fin {m k : Nat} {w w' : World} {e : Ending} (h : NsEnd m k w e w') : NEnd m k w e w' := by
  obtain ⟨v, he, h1, h2⟩ := h
  exact ⟨v, he, h1.nz, h2⟩
theorem NumNew.ns {m : Nat} {w w' : World} {e : Ending} (h : NumNew m w e w') (k : Nat) (hk : m < Num.K ^ k) : NsEnd m k w e w' := by
  obtain ⟨v, he, l, h1, h2, h3, h4⟩ := h
  exact ⟨v, he, ⟨l, h1, h2, h3, h2.len_le (by rw [h3]; exact hk)⟩, h4⟩

theorem Nz.nil (w : World) : Nz w (.slice none 0 0) 0 0 := ⟨[], Rd.nil _ _, Num.Nrm.nil, rfl, Nat.le_refl _⟩
theorem norm_n {w : World} {va : Value} {a k : Nat} (ha : Nm w va a k) (hk : k ≤ 1000) : Calls Tryz.prog 54 #[va] w (NEnd a k w) := by
  have h1 := ha.lt
  obtain ⟨la, ra, rfl, na⟩ := ha
  obtain ⟨A, n, c, rfl, Hn, hlc, hc, HLa, h⟩ := ra.open_
  have e1 := Hn.out
  refine (norm_walk (fun _ => True) A n c la w e1 hlc hc (by omega) h).mono fun e w' ⟨v, i, hi, he, ⟨g, hv, hg, ho, hb⟩, hz, hn⟩ => ?_
  subst hv
  exact ⟨_, he, ⟨la.take i, ho.rd _ trivial (HLa.out.take i) (by rw [List.length_take]; omega), hn, hz.val (by omega), by rw [List.length_take]; omega⟩, hb⟩
theorem of_n {w : World} (n : Nat) (hn : n < 18446744073709551616) : Calls Tryz.prog 78 #[.int .u64 (n : Int)] w (NEnd n 2 w) :=
  (of_walk n w hn).mono fun _ _ ⟨v, he, hr⟩ => ⟨v, he, hr.nz 2 (by rw [Num.K_eq]; exact hn)⟩
theorem rof_n {w : World} (n : Nat) (hn : n < 18446744073709551616) : Calls Tryz.prog 47 #[.int .u64 (n : Int)] w (NEnd n 2 w) :=
  (rof_walk n w hn).mono fun _ _ ⟨v, he, hr⟩ => ⟨v, he, hr.nz 2 (by rw [Num.K_eq]; exact hn)⟩
theorem rnorm_n {w : World} {va : Value} {a k : Nat} (ha : Nm w va a k) (hk : k ≤ 1000) : Calls Tryz.prog 80 #[va] w (NsEnd a k w) := by
  have h1 := ha.lt
  obtain ⟨la, ra, rfl, na⟩ := ha
  exact (rnorm_walk _ la w ra (by omega)).mono fun e w' h => h.ns _ h1
theorem rcmp_n {w : World} {va vb : Value} {a b k j : Nat} (ha : Nm w va a k) (hb : Nm w vb b j) (hk : k ≤ 1000) (hj : j ≤ 1000) (c : Int) (hc : cmpI a b = c) :
    Calls Tryz.prog 110 #[va, vb] w fun e w' => e = .returned (.int .i64 c) ∧ Below w.heap.size w w' := by
  obtain ⟨la, ra, rfl, na⟩ := ha
  obtain ⟨lb, rb, rfl, nb⟩ := hb
  refine (rcmp_walk _ _ la lb w ra rb (by omega) (by omega)).mono fun e w' ⟨he, hw⟩ => ?_
  subst hw
  exact ⟨by rw [he, hc], Below.refl _ _⟩
theorem radd_n {w : World} {va vb : Value} {a b k j : Nat} (ha : Nm w va a k) (hb : Nm w vb b j) (hk : k ≤ 1000) (hj : j ≤ 1000) : Calls Tryz.prog 61 #[va, vb] w (NsEnd (a + b) (max k j + 1) w) := by
  have h1 := ha.lt
  have h2 := hb.lt
  obtain ⟨la, ra, rfl, na⟩ := ha
  obtain ⟨lb, rb, rfl, nb⟩ := hb
  exact (radd_walk _ _ la lb w ra rb (by omega) (by omega)).mono fun e w' h => h.ns _ (add_lt h1 h2)
theorem sub_n0 {w : World} {va vb : Value} {a b k j : Nat} (ha : Nm w va a k) (hb : Nm w vb b j) (hlt : a < b) :
    Calls Tryz.prog 82 #[va, vb] w fun e w' => e = .returned (.tuple #[.slice none 0 0, .bool false]) ∧ Below w.heap.size w w' := by
  obtain ⟨la, ra, rfl, na⟩ := ha
  obtain ⟨lb, rb, rfl, nb⟩ := hb
  exact sub_lt_b _ _ la lb w ra rb hlt
theorem rsub_n0 {w : World} {va vb : Value} {a b k j : Nat} (ha : Nm w va a k) (hb : Nm w vb b j) (hk : k ≤ 1000) (hj : j ≤ 1000) (hlt : a < b) :
    Calls Tryz.prog 93 #[va, vb] w fun e w' => e = .returned (.tuple #[.slice none 0 0, .bool false]) ∧ Below w.heap.size w w' := by
  obtain ⟨la, ra, rfl, na⟩ := ha
  obtain ⟨lb, rb, rfl, nb⟩ := hb
  refine (rsub_lt _ _ la lb w ra rb (by omega) (by omega) hlt).mono fun e w' ⟨he, hw⟩ => ?_
  subst hw
  exact ⟨he, Below.refl _ _⟩
def SsEnd (m k : Nat) (w : World) (e : Ending) (w' : World) : Prop := ∃ v, e = .returned (.tuple #[v, .bool true]) ∧ Ns w' (fun g => w.heap.size ≤ g) v m k ∧ Below w.heap.size w w'
theorem rsub_n {w : World} {va vb : Value} {a b k j : Nat} (ha : Nm w va a k) (hb : Nm w vb b j) (hk : k ≤ 1000) (hj : j ≤ 1000) (hge : b ≤ a) : Calls Tryz.prog 93 #[va, vb] w (SsEnd (a - b) k w) := by
  have h1 := ha.lt
  obtain ⟨la, ra, rfl, na⟩ := ha
  obtain ⟨lb, rb, rfl, nb⟩ := hb
  exact (rsub_ge _ _ la lb w ra rb (by omega) (by omega) hge).mono fun e w' ⟨v, he, l, h1', h2, h3, h4⟩ => ⟨v, he, ⟨l, h1', h2, h3, h2.len_le (by rw [h3]; exact Nat.lt_of_le_of_lt (Nat.sub_le _ _) h1)⟩, h4⟩
end Go.Proofs.YtohlilgnognmgaaGreatDoor
/-
  The walk of garmentref01.Mul.
-/
namespace Go.Proofs.YtohlilgnognmgaaGreatDoor
open Go.RowKit

theorem limb_z (A : Option Addr) (n c i : Nat) (z : Int) (l : List Nat) (w : World) (hz : z = (i : Int)) (hn : l.length = n) (hb : n ≤ 9223372036854775807) (hi : i ≤ 1000000000) (hL : Num.Lim l) (h : Cel w (fun _ => True) A l) :
    Calls Tryz.prog 95 #[.slice A n c, .int .i64 z] w fun e w' => e = .returned (.int .u64 (lm l i : Int)) ∧ w = w' := by
  subst hz
  exact limb_walk A n c i l w hn hb hi hL h

set_option maxRecDepth 4000 in
set_option maxHeartbeats 2000000 in
theorem rmul_walk (va vb : Value) (la lb : List Nat) (w : World) (ha : Rd w (fun _ => True) va la) (hb : Rd w (fun _ => True) vb lb) (hla : la.length ≤ 10000) (hlb : lb.length ≤ 10000) :
    Calls Tryz.prog 62 #[va, vb] w (NumNew (Num.val la * Num.val lb) w) := by
  obtain ⟨i0, hi, hz0, hz1, hz2⟩ := info_parts info_u32
  obtain ⟨A, n, c, rfl, Hn, hnc, hc, HLa, hA⟩ := ha.open_
  obtain ⟨B, m, d, rfl, Hm, hmd, hd, HLb, hB⟩ := hb.open_
  have hn : n ≤ 10000 := by have := Hn.out; omega
  have hm : m ≤ 10000 := by have := Hm.out; omega
  clear hla hlb ha hb
  have hA1 := hA.old
  have hB1 := hB.old
  clear hA hB
  go_enter Tryz.func62, Tryz.ntmps62
  go_wp2_with (at_make; refine wpList_make_u32 _ rfl (.tmp 14) (.tmp 14) 23 rfl 45 i0 Tryz.underlying23 hi hz0 hz1 hz2 .i64 .i64 _ _ (n + m) rfl rfl (by omega) (by omega) (by omega) ?_; intro g w1 hg1 hown1 hb1 hs1; have Hg := Lib.hid hg1; clear hg1)
  have hA2 : Cel w1 (· ≠ g) A la := hA1.keep (fun i hi => by have := Hg.out; have := hi.2; omega) (fun i o hi => hb1.cell (p := ⟨i, o, none⟩) hi.2)
  have hB2 : Cel w1 (· ≠ g) B lb := hB1.keep (fun i hi => by have := Hg.out; have := hi.2; omega) (fun i o hi => hb1.cell (p := ⟨i, o, none⟩) hi.2)
  clear hA1 hB1
  go_loopw [6] (fun i wr => ∃ k : Nat, k ≤ n ∧ i = .int .i64 k ∧ MulInv 45 g (n + m) k m la lb w1 wr) (fun i _ => n - (intOf i).toNat)
  case atStart => exact ⟨0, Nat.zero_le _, rfl, _, by simp, Num.Lim.replicate _, by simp [Num.val, List.take_replicate, Num.val_replicate], hown1, only_refl _ _⟩
  case round =>
    obtain ⟨k, hk, rfl, l, hl, hL, hv, hown, hgr⟩ := hrel
    have Hl := Lib.hid hl
    have HL := Lib.hid hL
    have Hv := Lib.hid hv
    clear hl hL hv
    by_cases hlt : k < n
    · obtain ⟨x, hx⟩ : ∃ x, la[k]? = some x := ⟨_, List.getElem?_eq_getElem (by have := Hn.out; omega)⟩
      have hxb : x < 4294967296 := HLa.out.at hx
      have L1 := Lib.hid (fun w => limb_walk A n c k la w Hn.out (by omega) (by omega) HLa.out)
      rw [lm_at hx] at L1
      have Hx := Lib.hid hx
      clear hx
      have hA3 : Cel wr (· ≠ g) A la := hA2.only (fun _ h => h) hgr
      have hB3 : Cel wr (· ≠ g) B lb := hB2.only (fun _ h => h) hgr
      obtain ⟨wo, hwo⟩ : ∃ wo : World, wo = wr := ⟨_, rfl⟩
      subst hwo
      go_wp2
      go_loopw [7, 8] (fun cy j wr => ∃ q : Nat, q ≤ m ∧ j = .int .i64 q ∧ ∃ cr : Nat, cr < 4294967296 ∧ cy = .int .u64 cr ∧ ProdInv 45 g k q cr x l lb wo wr) (fun _ j _ => m - (intOf j).toNat)
      case atStart => exact ⟨0, Nat.zero_le _, rfl, 0, by omega, rfl, ProdInv.start hown⟩
      case round =>
        obtain ⟨q, hq, rfl, cr, hcr, rfl, hinv⟩ := hrel
        by_cases hlq : q < m
        · obtain ⟨y, hy⟩ : ∃ y, lb[q]? = some y := ⟨_, List.getElem?_eq_getElem (by have := Hm.out; omega)⟩
          have hyb : y < 4294967296 := HLb.out.at hy
          obtain ⟨s, hs⟩ : ∃ s, l[k + q]? = some s := ⟨_, List.getElem?_eq_getElem (by have := Hl.out; omega)⟩
          have hsb : s < 4294967296 := HL.out.at hs
          have hcell := hinv.cell hs
          have hfr := hinv.frozen (k + q)
          have L2 := Lib.hid (fun w => limb_walk B m d q lb w Hm.out (by omega) (by omega) HLb.out)
          rw [lm_at hy] at L2
          have hopen := hinv
          obtain ⟨r, hr, hLr, _, how, hgw⟩ := hopen
          have hmid : (mid l k r).length = n + m := by rw [mid_length l k r (by have := Hl.out; omega)]; exact Hl.out
          have hmv : lm (mid l k r) (k + q) = s := lm_at (by rw [mid_at l k r (by have := Hl.out; omega) q (by omega)]; exact hs)
          have L3 := Lib.hid (fun z hz w => limb_z (some ⟨g, 0, none⟩) (n + m) (n + m) (k + q) z (mid l k r) w hz hmid (by omega) (by omega) (mid_lim HL.out hLr))
          rw [hmv] at L3
          have hS := how.celTop
          have hA4 : Cel wr (fun _ => True) A la := (hA3.only (fun _ h => h) hgw).mono (fun _ _ => trivial)
          have hB4 : Cel wr (fun _ => True) B lb := (hB3.only (fun _ h => h) hgw).mono (fun _ _ => trivial)
          have Hs := Lib.hid hs
          have Hy := Lib.hid hy
          clear hs hy hmid hmv how hgw hr hLr
          have hp0 : (0 : Int) ≤ (x : Int) * (y : Int) := Int.mul_nonneg (by omega) (by omega)
          have HP : Hid ((x : Int) * (y : Int) = ((y * x : Nat) : Int)) := by show _ = _; rw [Nat.mul_comm, Int.natCast_mul]
          have HB := Lib.hid (mul_bound y x hyb hxb)
          have hp1 : (x : Int) * (y : Int) ≤ 18446744065119617025 := by have := HP.out; have := HB.out; omega
          go_wp2_with fail
          refine (L1.out _ hA4).mono ?_
          rintro e w' ⟨rfl, rfl⟩
          go_wp2_with fail
          refine (L2.out _ hB4).mono ?_
          rintro e w' ⟨rfl, rfl⟩
          go_wp2_with fail
          refine (L3.out _ (by omega) _ hS).mono ?_
          rintro e w' ⟨rfl, rfl⟩
          go_wp2
          go_roundw
          case rel =>
            have e1 := HP.out
            have e2 := HB.out
            exact ⟨q + 1, by omega, by go_num, (cr + (y * x + s)) / 4294967296, by omega, int_u64 (by omega), hinv.step Hs.out Hy.out _ (by omega)⟩
          case measure => simp [intOf]; omega
        · obtain rfl : q = m := by omega
          obtain ⟨r, hk', hr, hv', hw⟩ := hinv
          have hpost : ProdPost 45 g k q x cr l lb wo wr := ⟨r, hk', hr, by rw [hv', List.take_of_length_le (l := lb) (by have := Hm.out; omega)], hw⟩
          have hfr : wr.frozen? ⟨g, k + q, none⟩ = false := hw.1.frozen _
          obtain ⟨u, hu⟩ : ∃ u, wr.cell? ⟨g, k + q, none⟩ = some u := by
            have := hw.1.cel (k + q) _ (List.getElem?_eq_getElem (by rw [mid_length l k r (by have := Hl.out; omega)]; have := Hl.out; omega))
            rw [Nat.zero_add] at this
            exact ⟨_, this⟩
          have hstep := MulInv.step (N := n + q) Hl.out HL.out Hv.out hgr Hx.out (by omega) hcr hpost
          clear hpost hown hw hv' hr hk'
          go_wp2
          go_roundw
          case rel => exact ⟨k + 1, by omega, by go_num, hstep⟩
          case measure => simp [intOf]; omega
    · have hkk : k = n := by omega
      have Hkk := Lib.hid hkk
      clear hkk
      have hrd : Rd wr (fun _ => True) (.slice (some ⟨g, 0, none⟩) (n + m) (n + m)) l := by have := hown.rd (fun _ => True) trivial HL.out (by have := Hl.out; omega); rwa [Hl.out] at this
      go_wp2_with fail
      refine (rnorm_walk _ l wr hrd (by have := Hl.out; omega)).mono ?_
      rintro e w4 ⟨v, rfl, l4, hr4, hn4, hv4, hb4⟩
      go_wp2
      go_ret
      have hbw : Below w.heap.size w wr := hb1.trans ⟨hgr.os, hgr.tape, hgr.output, hgr.size, fun i hi => hgr.block i (Nat.lt_of_lt_of_le hi hb1.size) (by intro e; injection e with e; have := Hg.out; omega)⟩
      refine ⟨v, rfl, l4, hr4.mono (fun _ h => Nat.le_trans hbw.size h), hn4, ?_, hbw.trans (hb4.mono hbw.size)⟩
      have h1 := Hv.out
      rw [Hkk.out, List.take_of_length_le (l := l) (by have := Hl.out; omega), List.take_of_length_le (l := la) (by have := Hn.out; omega)] at h1
      rw [hv4, h1]
end Go.Proofs.YtohlilgnognmgaaGreatDoor
/-
  The walks of garmentref01.Bits, Shift and Half.
-/
namespace Go.Proofs.YtohlilgnognmgaaGreatDoor
open Go.RowKit

/-- m has j binary digits. -/
def Bt (m j : Nat) : Prop := m < 2 ^ j ∧ (0 < j → 2 ^ (j - 1) ≤ m)
theorem K_pow (k : Nat) : Num.K ^ k = 2 ^ (32 * k) := by rw [Nat.pow_mul, Num.K_eq]
def BEnd (m k : Nat) (w : World) (e : Ending) (w' : World) : Prop := ∃ j : Nat, e = .returned (.int .i64 (j : Int)) ∧ Bt m j ∧ j ≤ 32 * k ∧ Below w.heap.size w w'
/-- The loop of Bits: j digits of the top limb x are counted, y is left. -/
def BtInv (x j y : Nat) : Prop := x < (y + 1) * 2 ^ j ∧ y * 2 ^ j ≤ x ∧ (0 < j → 2 ^ (j - 1) ≤ x) ∧ j ≤ 32
theorem BtInv.step {x j y : Nat} (h : BtInv x j y) (hx : x < 4294967296) (hy : 0 < y) : BtInv x (j + 1) (y / 2) := by
  obtain ⟨h1, h2, h3, h4⟩ := h
  have h5 : 2 ^ j ≤ x := Nat.le_trans (Nat.le_mul_of_pos_left _ hy) h2
  have h6 : j < 32 := by
    rcases Nat.lt_or_ge j 32 with h | h
    · exact h
    · have := Nat.pow_le_pow_right (show 0 < 2 by omega) h
      omega
  refine ⟨?_, ?_, fun _ => h5, h6⟩
  · rw [Nat.pow_succ, Nat.mul_comm (2 ^ j) 2, ← Nat.mul_assoc]
    exact Nat.lt_of_lt_of_le h1 (Nat.mul_le_mul_right _ (by omega))
  · rw [Nat.pow_succ, Nat.mul_comm (2 ^ j) 2, ← Nat.mul_assoc]
    exact Nat.le_trans (Nat.mul_le_mul_right _ (by omega)) h2
theorem BtInv.fin {x j : Nat} (h : BtInv x j 0) (n : Nat) (T : Nat) (hT : T < Num.K ^ n) (hx : 0 < x) : Bt (T + Num.K ^ n * x) (32 * n + j) ∧ 0 < j := by
  obtain ⟨h1, h2, h3, h4⟩ := h
  have hj : 0 < j := by
    rcases Nat.eq_zero_or_pos j with h | h
    · subst h; simp at h1; omega
    · exact h
  have h3' := h3 hj
  rw [K_pow] at hT ⊢
  refine ⟨⟨?_, fun _ => ?_⟩, hj⟩
  · rw [Nat.pow_add]
    have := Nat.mul_le_mul_left (2 ^ (32 * n)) (show x + 1 ≤ 2 ^ j by omega)
    rw [Nat.mul_add] at this
    omega
  · rw [show 32 * n + j - 1 = 32 * n + (j - 1) from by omega, Nat.pow_add]
    have := Nat.mul_le_mul_left (2 ^ (32 * n)) h3'
    omega

set_option maxRecDepth 4000 in
set_option maxHeartbeats 1000000 in
theorem rbits_n {w : World} {va : Value} {a k : Nat} (ha : Nm w va a k) (hk : k ≤ 1000) : Calls Tryz.prog 91 #[va] w (BEnd a k w) := by
  go_enter Tryz.func91, Tryz.ntmps91
  go_wp2_with fail
  refine (rnorm_n ha hk).mono ?_
  rintro e w1 ⟨v, rfl, ⟨l, hr, hn, hv, hlk⟩, hb⟩
  obtain ⟨A, n, c, rfl, Hn, hnc, hc, HL, hA⟩ := hr.open_
  have hnk : n ≤ k := by have := Hn.out; omega
  have Hv := Lib.hid hv
  have Hnr := Lib.hid hn
  clear hr hv hn ha
  by_cases h0 : n = 0
  · subst h0
    have Ha0 : Hid (a = 0) := by
      show a = 0
      rw [← Hv.out, List.eq_nil_of_length_eq_zero Hn.out]
      rfl
    go_wp2
    go_ret
    exact ⟨0, rfl, ⟨by rw [Ha0.out]; simp, by omega⟩, by omega, hb⟩
  · obtain ⟨p, rfl⟩ : ∃ p, n = p + 1 := ⟨n - 1, by omega⟩
    obtain ⟨x, hx⟩ : ∃ x, l[p]? = some x := ⟨_, List.getElem?_eq_getElem (by have := Hn.out; omega)⟩
    obtain ⟨g, off, rfl, _, hcs⟩ := hA (by have := Hn.out; omega)
    have hcell := hcs _ _ hx
    have hxb : x < 4294967296 := HL.out.at hx
    have hx0 : Hid (0 < x) := by
      show 0 < x
      have := Hnr.out
      unfold Num.Nrm at this
      rw [List.getLast?_eq_getElem?, show l.length - 1 = p from by have := Hn.out; omega, hx] at this
      simp at this
      omega
    have Hx := Lib.hid hx
    clear hx hcs hA h0
    go_wp2
    go_loop [4, 5] (fun b y => ∃ j q : Nat, b = .int .i64 (32 * (p : Int) + j) ∧ y = .int .u32 (q : Int) ∧ Hid (BtInv x j q) ∧ j ≤ 32 ∧ q ≤ x) (fun _ y => (intOf y).toNat)
    case atStart => exact ⟨0, x, by go_num, rfl, ⟨by simp, by simp, by omega, by omega⟩, by omega, by omega⟩
    case round =>
      obtain ⟨j, q, rfl, rfl, Hinv, hj, hq⟩ := hrel
      by_cases hq0 : 0 < q
      · go_wp2
        go_round
        case rel => exact ⟨j + 1, q / 2, by go_num, by go_num, Hinv.out.step hxb hq0, (Hinv.out.step hxb hq0).2.2.2, by omega⟩
        case measure => simp [intOf] <;> omega
      · have hq00 : q = 0 := by omega
        subst hq00
        go_wp2
        go_ret
        have h1 := Hinv.out.fin p (Num.val (l.take p)) (by have := take_lt l HL.out p; exact this) hx0.out
        rw [← val_take_succ l p x Hx.out, List.take_of_length_le (by have := Hn.out; omega), Hv.out] at h1
        exact ⟨32 * p + j, by congr 2, h1.1, by omega, hb⟩
end Go.Proofs.YtohlilgnognmgaaGreatDoor
/-
  The walks of garmentref01.Half and Shift.
-/
namespace Go.Proofs.YtohlilgnognmgaaGreatDoor
open Go.RowKit

/-- The loop of Half. -/
def HfInv (la : List Nat) (w : World) (k : Nat) (y : Value) (wr : World) : Prop :=
  ∃ l : List Nat, Row wr w.heap.size y l ∧ Num.Lim l ∧ l.length = k ∧ 2 * Num.val l + lm la 0 % 2 = Num.val (la.take k) + Num.K ^ k * (lm la k % 2) ∧ Below w.heap.size w wr
theorem half_num (R P K L x y b d : Nat) (hv : 2 * R + b = L + P * (x % 2)) (hd : 2 * d + x % 2 = x + K * (y % 2)) : 2 * (R + P * d) + b = L + P * x + P * K * (y % 2) := by
  have h := congrArg (P * ·) hd
  simp only [Nat.mul_add, ← Nat.mul_assoc] at h ⊢
  rw [Nat.mul_comm P 2] at h
  omega
set_option maxRecDepth 4000 in
set_option maxHeartbeats 2000000 in
theorem rhalf_n {w : World} {va : Value} {a k : Nat} (ha : Nm w va a k) (hk : k ≤ 1000) : Calls Tryz.prog 94 #[va] w (NsEnd (a / 2) k w) := by
  obtain ⟨i0, hi, hz0, hz1, hz2⟩ := info_parts info_u32
  have hlt := ha.lt
  obtain ⟨la, ra, hva, hla⟩ := ha
  obtain ⟨A, n, c, rfl, Hn, hnc, hc, HLa, hA⟩ := ra.open_
  have hn : n ≤ 1000 := by have := Hn.out; omega
  have HA := Lib.hid hA
  have Hva := Lib.hid hva
  have Hlt := Lib.hid hlt
  clear ra hva hla hA hlt
  go_enter Tryz.func94, Tryz.ntmps94
  go_wp2
  go_loopw [3, 4] (fun y i wr => ∃ q : Nat, q ≤ n ∧ i = .int .i64 q ∧ HfInv la w q y wr) (fun _ i _ => n - (intOf i).toNat)
  case atStart => exact ⟨0, Nat.zero_le _, rfl, [], Row.nil _ _, Num.Lim.nil, rfl, by simp [Num.val], Below.refl _ _⟩
  case round =>
    obtain ⟨q, hq, rfl, l, hrow, hL, hlq, hv, hbl⟩ := hrel
    have HL := Lib.hid hL
    have Hlq := Lib.hid hlq
    have Hv := Lib.hid hv
    have hbs := hbl.size
    clear hL hlq hv
    by_cases hgo : q < n
    · have hxb := lm_lt HLa.out q
      have hyb := lm_lt HLa.out (q + 1)
      obtain ⟨x, hx⟩ : ∃ x, x = lm la q := ⟨_, rfl⟩
      obtain ⟨y, hy⟩ : ∃ y, y = lm la (q + 1) := ⟨_, rfl⟩
      have L1 := Lib.hid (fun w => limb_walk A n c q la w Hn.out (by omega) (by omega) HLa.out)
      have L2 := Lib.hid (fun z hz w => limb_z A n c (q + 1) z la w hz Hn.out (by omega) (by omega) HLa.out)
      rw [← hx] at hxb L1
      rw [← hy] at hyb L2
      have Hx := Lib.hid hx
      have Hy := Lib.hid hy
      have hA1 := HA.out.below' hbl
      have hrow1 : wr.ownsRow w.heap.size 45 1 _ l.length (l.map Lv) := hrow
      have hlen : l.length ≤ 2000 := by have := Hlq.out; omega
      clear hx hy
      go_wp2_with fail
      refine (L1.out _ hA1).mono ?_
      rintro e w' ⟨rfl, rfl⟩
      go_wp2_with fail
      refine (L2.out _ (by omega) _ hA1).mono ?_
      rintro e w' ⟨rfl, rfl⟩
      go_wp2_with (at_builtin; refine wpList_append_u32 rfl (.tmp 11) (.tmp 24) 23 rfl w.heap.size 45 i0 Tryz.underlying23 hi hz0 hz1 hz2 _ l rfl (hrow1.alloc _) _ 1 1 [x / 2 + y % 2 * 2147483648] rfl rfl (fun _ => True) (lit_cel wr (x / 2 + y % 2 * 2147483648) _ (by omega)) (by omega) (by simp; omega) ?_; intro v' w' hrow' hg')
      go_roundw
      case rel =>
        have hg2 := only_trans (World.grownBy_alloc wr _ _) hg'
        refine ⟨q + 1, by omega, by go_num, l ++ [x / 2 + y % 2 * 2147483648], hrow', HL.out.append (lim1 _ (by omega)), by simp; exact Hlq.out, ?_, hbl.grown hg2 hbs (fun b hb => (hrow.lt b hb).1)⟩
        have h1 := Hv.out
        rw [Num.val_snoc, Hlq.out, take_lm la q, ← Hx.out, ← Hy.out, Nat.pow_succ]
        rw [← Hx.out] at h1
        exact half_num _ _ _ _ _ _ _ _ h1 (by rw [Num.K_eq]; omega)
      case measure => simp [intOf] <;> omega
    · obtain rfl : q = n := by omega
      have hrd : Rd wr (fun _ => True) _ l := (hrow.rd HL.out).mono (fun _ _ => trivial)
      go_wp2_with fail
      refine (rnorm_walk _ l wr hrd (by have := Hlq.out; omega)).mono ?_
      rintro e w1 h1
      have h0 := Hv.out
      rw [List.take_of_length_le (by have := Hn.out; omega), lm_out (i := q) (by have := Hn.out; omega), Hva.out] at h0
      have h2 : NsEnd (a / 2) k wr e w1 := by
        have := h1.ns k (by have := Hlt.out; omega)
        rwa [show Num.val l = a / 2 from by omega] at this
      obtain ⟨v, rfl, h3, h4⟩ := h2
      clear h1 h0
      go_wp2
      go_ret
      exact ⟨v, rfl, h3.mono (fun _ h => Nat.le_trans hbs h), hbl.trans (h4.mono hbs)⟩

/-- The loop of Shift. -/
def ShInv (s t n : Nat) (la : List Nat) (w : World) (gk : Nat) (y cy i : Value) (wr : World) : Prop :=
  ∃ (k cr : Nat) (l : List Nat), gk = n + 2 - k ∧ k ≤ n + 1 ∧ i = .int .i64 (k : Int) ∧ cy = .int .u64 (cr : Int) ∧ cr < 2 ^ s ∧ (k = n + 1 → cr = 0) ∧ Row wr w.heap.size y l ∧ Num.Lim l ∧ l.length = t + k ∧
    Num.val l + Num.K ^ (t + k) * cr = Num.K ^ t * (Num.val (la.take k) * 2 ^ s) ∧ Below w.heap.size w wr
theorem shift_num (R P K cr T L x s d c' : Nat) (Q : Nat) (hP : P = T * Q) (hv : R + P * cr = T * (L * s)) (hd : d + K * c' = x * s + cr) : R + P * d + P * K * c' = T * ((L + Q * x) * s) := by
  have h := congrArg (P * ·) hd
  subst hP
  simp only [Nat.mul_add, Nat.add_mul, ← Nat.mul_assoc] at h hv ⊢
  omega
theorem shl_low (x cr s : Nat) (hx : x < 4294967296) (hc : cr < 2 ^ s) (hs : s ≤ 31) : ∃ p : Nat, (x : Int) * 2 ^ s = (p : Int) ∧ p = x * 2 ^ s ∧ p + cr < 9223372036854775808 ∧ (p + cr) / 4294967296 < 2 ^ s := by
  have hp : 2 ^ s ≤ 2147483648 := Nat.le_trans (Nat.pow_le_pow_right (by omega) hs) (by decide)
  have hm := Nat.mul_le_mul_right (2 ^ s) (show x + 1 ≤ 4294967296 by omega)
  rw [Nat.add_mul] at hm
  refine ⟨x * 2 ^ s, by simp, rfl, ?_, ?_⟩
  · omega
  · generalize x * 2 ^ s = u at hm
    generalize 2 ^ s = v at hm hc hp ⊢
    omega

set_option maxRecDepth 4000 in
set_option maxHeartbeats 2000000 in
theorem rshift_n {w : World} {va : Value} {a k : Nat} (d : Nat) (hd : d ≤ 32000) (ha : Nm w va a k) (hk : k ≤ 1000) : Calls Tryz.prog 92 #[va, .int .i64 (d : Int)] w (NsEnd (a * 2 ^ d) (d / 32 + k + 1) w) := by
  obtain ⟨i0, hi, hz0, hz1, hz2⟩ := info_parts info_u32
  have hlt := ha.lt
  obtain ⟨la, ra, hva, hla⟩ := ha
  obtain ⟨A, n, c, rfl, Hn, hnc, hc, HLa, hA⟩ := ra.open_
  have hn : n ≤ 1000 := by have := Hn.out; omega
  obtain ⟨t, ht⟩ : ∃ t, t = d / 32 := ⟨_, rfl⟩
  obtain ⟨s, hs⟩ : ∃ s, s = d % 32 := ⟨_, rfl⟩
  have hs31 : s ≤ 31 := by omega
  have hd' : d = 32 * t + s := by omega
  rw [← ht]
  subst hd'
  have htb : t ≤ 1000 := by omega
  have HA := Lib.hid hA
  have Hva := Lib.hid hva
  have Hlt := Lib.hid hlt
  have hrem : (32 * (t : Int) + (s : Int)) % 32 = (s : Int) := by omega
  clear ra hva hla hA hlt ht hs
  go_enter Tryz.func92, Tryz.ntmps92
  go_wp2_with (at_make; refine wpList_make_u32 _ rfl (.tmp 10) (.tmp 10) 23 rfl 45 i0 Tryz.underlying23 hi hz0 hz1 hz2 .i64 .i64 _ _ t rfl rfl (by omega) (by omega) (by omega) ?_; intro g w1 hg1 hown1 hb1 hs1; have Hg := Lib.hid hg1; clear hg1)
  have hrow1 : Row w1 w.heap.size (.slice (some ⟨g, 0, none⟩) t t) (List.replicate t 0) := by
    have := hown1.row w.heap.size (by have := Hg.out; omega) (by simp; unfold maxLen; omega)
    simpa [Row] using this
  go_loopg [5, 6, 7] (n + 2) (fun gk y cy i wr => ShInv s t n la w gk y cy i wr)
  case atStart => exact ⟨0, 0, List.replicate t 0, rfl, by omega, rfl, rfl, Nat.pow_pos (by omega), fun _ => rfl, hrow1, Num.Lim.replicate _, by simp, by simp [Num.val, Num.val_replicate], hb1⟩
  case round =>
    obtain ⟨q, cr, l, hgk, hq, rfl, rfl, hcr, hlast, hrow, hL, hlq, hv, hbl⟩ := hrel
    have Hgk := Lib.hid hgk
    have Hlast := Lib.hid hlast
    have HL := Lib.hid hL
    have Hlq := Lib.hid hlq
    have Hv := Lib.hid hv
    have hbs := hbl.size
    clear hgk hlast hL hlq hv hrow1 hown1
    by_cases hgo : q ≤ n
    · have hxb := lm_lt HLa.out q
      obtain ⟨x, hx⟩ : ∃ x, x = lm la q := ⟨_, rfl⟩
      have L1 := Lib.hid (fun w => limb_walk A n c q la w Hn.out (by omega) (by omega) HLa.out)
      rw [← hx] at hxb L1
      have Hx := Lib.hid hx
      have hA1 := HA.out.below' hbl
      have hrow2 : wr.ownsRow w.heap.size 45 1 _ l.length (l.map Lv) := hrow
      have hlen : l.length ≤ 3000 := by have := Hlq.out; omega
      obtain ⟨p, hp1, hp2, hp3, hp4⟩ := shl_low x cr s hxb hcr hs31
      have Hp2 := Lib.hid hp2
      have Hp4 := Lib.hid hp4
      have Hcr := Lib.hid hcr
      clear hx hp2 hp4 hcr
      go_wp2_with fail
      refine (L1.out _ hA1).mono ?_
      rintro e w' ⟨rfl, rfl⟩
      go_wp2_with (at_builtin; refine wpList_append_u32 rfl (.tmp 27) (.tmp 31) 23 rfl w.heap.size 45 i0 Tryz.underlying23 hi hz0 hz1 hz2 _ l rfl (hrow2.alloc _) _ 1 1 [(p + cr) % 4294967296] rfl rfl (fun _ => True) (lit_cel wr ((p + cr) % 4294967296) _ (by omega)) (by omega) (by simp; omega) ?_; intro v' w' hrow' hg')
      go_roundg (n + 2 - (q + 1))
      case measure => have := Hgk.out; omega
      case rel =>
        have hg2 := only_trans (World.grownBy_alloc wr _ _) hg'
        refine ⟨q + 1, (p + cr) / 4294967296, l ++ [(p + cr) % 4294967296], rfl, by omega, by go_num, int_u64 (by omega), Hp4.out, ?_, hrow', HL.out.append (lim1 _ (Nat.mod_lt _ (by omega))), by simp; have := Hlq.out; omega, ?_, hbl.grown hg2 hbs (fun b hb => (hrow.lt b hb).1)⟩
        · intro h
          have e1 : x = 0 := by rw [Hx.out]; exact lm_out (by have := Hn.out; omega)
          have e2 := Hp2.out
          rw [e1, Nat.zero_mul] at e2
          have e3 := Hcr.out
          have e4 : 2 ^ s ≤ 2147483648 := Nat.le_trans (Nat.pow_le_pow_right (by omega) hs31) (by decide)
          omega
        · rw [Num.val_snoc, Hlq.out, take_lm la q, ← Hx.out, ← Nat.add_assoc t q 1, Nat.pow_succ]
          exact shift_num _ _ _ _ _ _ _ _ _ _ _ (Nat.pow_add _ _ _) Hv.out (by rw [← Hp2.out]; exact Nat.mod_add_div _ _)
    · have hc0 : cr = 0 := Hlast.out (by omega)
      subst hc0
      have hrd : Rd wr (fun _ => True) _ l := (hrow.rd HL.out).mono (fun _ _ => trivial)
      go_wp2_with fail
      refine (rnorm_walk _ l wr hrd (by have := Hlq.out; omega)).mono ?_
      rintro e w2 h1
      have h0 := Hv.out
      rw [Nat.mul_zero, Nat.add_zero, List.take_of_length_le (by have := Hn.out; omega), Hva.out] at h0
      have e1 : Num.val l = a * 2 ^ (32 * t + s) := by
        rw [h0, K_pow, Nat.pow_add, ← Nat.mul_assoc, Nat.mul_comm (2 ^ (32 * t)) a, Nat.mul_assoc]
      have h2 : NsEnd (a * 2 ^ (32 * t + s)) (t + k + 1) wr e w2 := by
        have := h1.ns (t + k + 1) (by
          rw [h0, Nat.add_assoc, Nat.pow_add, Nat.pow_succ]
          refine Nat.mul_lt_mul_of_pos_left (Nat.mul_lt_mul_of_lt_of_le Hlt.out ?_ (Num.K_pos)) (Num.pow_pos' _)
          exact Nat.le_trans (Nat.pow_le_pow_right (by omega) hs31) (by decide))
        rwa [e1] at this
      obtain ⟨v, rfl, h3, h4⟩ := h2
      clear h1 h0 e1
      go_wp2
      go_ret
      exact ⟨v, rfl, h3.mono (fun _ h => Nat.le_trans hbs h), hbl.trans (h4.mono hbs)⟩
end Go.Proofs.YtohlilgnognmgaaGreatDoor
/-
  The walk of garmentref01.DivMod.
-/
namespace Go.Proofs.YtohlilgnognmgaaGreatDoor
open Go.RowKit

/-- Limb t of q is divisible by what is below binary place j. -/
def Dv (q : List Nat) (j : Nat) : Prop := ∀ t x : Nat, q[t]? = some x → 2 ^ (j - 32 * t) ∣ x
theorem Dv.zero (n j : Nat) : Dv (List.replicate n 0) j := fun t x hx => by
  obtain ⟨_, h⟩ := List.getElem?_eq_some_iff.1 hx
  simp at h
  subst h
  exact Nat.dvd_zero _
theorem Dv.down {q : List Nat} {j : Nat} (h : Dv q (j + 1)) : Dv q j := fun t x hx => Nat.dvd_trans (Nat.pow_dvd_pow 2 (by omega)) (h t x hx)
theorem Dv.set {q : List Nat} {t s x : Nat} (h : Dv q (32 * t + s + 1)) (hx : q[t]? = some x) : Dv (q.set t (x + 2 ^ s)) (32 * t + s) := fun t' x' hx' => by
  by_cases e : t = t'
  · subst e
    rw [List.getElem?_set_self (List.getElem?_eq_some_iff.1 hx).1] at hx'
    injection hx' with hx'
    subst hx'
    have h1 := h _ _ hx
    rw [show 32 * t + s - 32 * t = s from by omega]
    exact Nat.dvd_add (Nat.dvd_trans (Nat.pow_dvd_pow 2 (by omega)) h1) (Nat.dvd_refl _)
  · rw [List.getElem?_set_ne e] at hx'
    exact h.down _ _ hx'
theorem Dv.room {q : List Nat} {t s x : Nat} (h : Dv q (32 * t + s + 1)) (hx : q[t]? = some x) (hs : s ≤ 31) (hb : x < 4294967296) : x + 2 ^ s < 4294967296 := by
  have h1 := h _ _ hx
  rw [show 32 * t + s + 1 - 32 * t = s + 1 from by omega] at h1
  obtain ⟨c, rfl⟩ := h1
  have e : 2 ^ (s + 1) * 2 ^ (31 - s) = 4294967296 := by rw [← Nat.pow_add, show s + 1 + (31 - s) = 32 from by omega]
  have hc : c < 2 ^ (31 - s) := by
    rw [← e] at hb
    exact Nat.lt_of_mul_lt_mul_left hb
  have h2 := Nat.mul_le_mul_left (2 ^ (s + 1)) (show c + 1 ≤ 2 ^ (31 - s) from hc)
  rw [e, Nat.mul_add, Nat.mul_one, Nat.pow_succ] at h2
  rw [Nat.pow_succ]
  have h0 : 0 < 2 ^ s := Nat.pow_pos (by omega)
  omega
theorem val_set (q : List Nat) (t x y : Nat) (hx : q[t]? = some x) : Num.val (q.set t y) + Num.K ^ t * x = Num.val q + Num.K ^ t * y := by
  have hlt := (List.getElem?_eq_some_iff.1 hx).1
  have e1 : lm (q.set t y) t = y := lm_at (List.getElem?_set_self hlt)
  have e2 : (q.set t y).take t = q.take t := List.take_set_of_le (Nat.le_refl _)
  have e3 : (q.set t y).drop (t + 1) = q.drop (t + 1) := by rw [List.drop_set]; simp
  have h1 := val_td (q.set t y) t
  have h2 := val_td q t
  rw [drop_lm, e1, e2, e3] at h1
  rw [drop_lm, lm_at hx] at h2
  rw [Nat.mul_add] at h1 h2
  omega
theorem only_of {w w' : World} {r : Option Nat} (h : Below w.heap.size w w') : w.grownBy w' r := ⟨h.os, h.tape, h.output, h.size, fun i hi _ => h.block i hi⟩
theorem dv_half (b D P : Nat) (h : D = b * 2 ^ P) (h0 : 0 < P) : D / 2 = b * 2 ^ (P - 1) := by
  obtain ⟨q, rfl⟩ : ∃ q, P = q + 1 := ⟨P - 1, by omega⟩
  rw [h, Nat.pow_succ, ← Nat.mul_assoc, Nat.mul_div_cancel _ (by omega), Nat.add_sub_cancel]
theorem Bt.le {m j j' : Nat} (h : Bt m j) (h' : Bt m j') : j ≤ j' := by
  rcases Nat.lt_or_ge j' j with hlt | h1
  · have h2 := h.2 (by omega)
    have h3 := Nat.pow_le_pow_right (show 0 < 2 by omega) (show j' ≤ j - 1 by omega)
    have h4 := h'.1
    omega
  · exact h1
theorem Bt.inj {m j j' : Nat} (h : Bt m j) (h' : Bt m j') : j = j' := Nat.le_antisymm (h.le h') (h'.le h)
theorem Bt.less {a b j j' : Nat} (ha : Bt a j) (hb : Bt b j') (h : j < j') : a < b := by
  have h2 := hb.2 (by omega)
  have h3 := Nat.pow_le_pow_right (show 0 < 2 by omega) (show j ≤ j' - 1 by omega)
  have h4 := ha.1
  omega
theorem Bt.top {a b j t : Nat} (ha : Bt a (j + t)) (hb : Bt b j) (hj : 0 < j) : a < b * 2 ^ (t + 1) := by
  have h1 := ha.1
  have h2 := Nat.mul_le_mul_right (2 ^ (t + 1)) (hb.2 hj)
  rw [← Nat.pow_add, show j - 1 + (t + 1) = j + t from by omega] at h2
  omega
theorem rdiv_n0 {w : World} {va vb : Value} {a b k j : Nat} (_ha : Nm w va a k) (hb : Nm w vb b j) (hj : j ≤ 100) (h0 : b = 0) :
    Calls Tryz.prog 60 #[va, vb] w fun e w' => e = .returned (.tuple #[.slice none 0 0, .slice none 0 0, .bool false]) ∧ Below w.heap.size w w' := by
  go_enter Tryz.func60, Tryz.ntmps60
  go_wp2_with fail
  refine (rbits_n hb (by omega)).mono ?_
  rintro e w1 ⟨q, rfl, hbt, _, b1⟩
  have hq : q = 0 := by
    rcases Nat.eq_zero_or_pos q with h | h
    · exact h
    · have := hbt.2 h
      have := Nat.pow_pos (n := q - 1) (show 0 < 2 by omega)
      omega
  subst hq
  clear hbt
  go_wp2
  go_ret3
  exact ⟨rfl, b1⟩

/-- The loop of DivMod, binary place by binary place: j places are left. -/
def DvInv (e : TypeId) (g top a b ka kd : Nat) (w : World) (vr vd i : Value) (wr : World) : Prop :=
  ∃ (j r D : Nat) (q : List Nat), i = .int .i64 ((j : Int) - 1) ∧ j ≤ top + 1 ∧ Ns wr (· ≠ g) vr r ka ∧ Ns wr (· ≠ g) vd D kd ∧ (0 < j → D = b * 2 ^ (j - 1)) ∧ Own e wr g q ∧ q.length = top / 32 + 1 ∧ Num.Lim q ∧ Dv q j ∧ Num.val q * b + r = a ∧ r < b * 2 ^ j ∧ w.grownBy wr (some g)
theorem dv_yes (Q b r D a P Q' : Nat) (h : Q * b + r = a) (hD : D = b * P) (hge : D ≤ r) (hQ : Q' = Q + P) : Q' * b + (r - D) = a := by
  subst hQ
  rw [Nat.add_mul, Nat.mul_comm P b]
  omega
theorem dv_fin (Q b r a : Nat) (h : Q * b + r = a) (hr : r < b) : Q = a / b ∧ r = a % b := by
  have h1 : a / b = Q := Nat.div_eq_of_lt_le (by omega) (by rw [Nat.add_mul]; omega)
  have h2 := Nat.div_add_mod a b
  rw [h1, Nat.mul_comm] at h2
  exact ⟨h1.symm, by omega⟩
set_option maxRecDepth 4000 in
set_option maxHeartbeats 4000000 in
theorem rdiv_n {w : World} {va vb : Value} {a b k j : Nat} (ha : Nm w va a k) (hb : Nm w vb b j) (hk : k ≤ 100) (hj : j ≤ 100) (hb0 : 0 < b) :
    Calls Tryz.prog 60 #[va, vb] w (DNEnd (a / b) (a % b) k j w) := by
  obtain ⟨i0, hi, hz0, hz1, hz2⟩ := info_parts info_u32
  have Hla := Lib.hid ha.lt
  have Hlb := Lib.hid hb.lt
  have Hb0 := Lib.hid hb0
  clear hb0
  go_enter Tryz.func60, Tryz.ntmps60
  go_wp2_with fail
  refine (rbits_n hb (by omega)).mono ?_
  rintro e w1 ⟨jb, rfl, hbt, hjb, b1⟩
  have hj0 : 0 < jb := by
    rcases Nat.eq_zero_or_pos jb with h | h
    · have h1 := hbt.1
      rw [h] at h1
      have := Hb0.out
      simp at h1
      omega
    · exact h
  have Hbt := Lib.hid hbt
  have ha1 := ha.below b1
  have hb1 := hb.below b1
  clear hbt ha hb
  go_wp2_with fail
  refine (rnorm_n ha1 (by omega)).mono ?_
  rintro e w2 ⟨vr, rfl, hr2, b2⟩
  have B2 := b1.trans (b2.mono b1.size)
  have hb2 := hb1.below b2
  have hr2' : Ns w2 (fun _ => True) vr a k := hr2.mono (fun _ _ => trivial)
  clear b1 b2 ha1 hb1 hr2
  go_wp2_with fail
  refine (rbits_n hr2'.nz.nm (by omega)).mono ?_
  rintro e w3 ⟨ja, rfl, hat, hja, b3⟩
  have B3 := B2.trans (b3.mono B2.size)
  have hb3 := hb2.below b3
  have hr3 := hr2'.below b3
  have Hat := Lib.hid hat
  clear b3 B2 hb2 hr2' hat
  go_wp2_with fail
  refine (rbits_n hb3 (by omega)).mono ?_
  rintro e w4 ⟨jb', rfl, hbt', hjb', b4⟩
  have hjj : jb' = jb := hbt'.inj Hbt.out
  subst hjj
  have B4 := B3.trans (b4.mono B3.size)
  have hb4 := hb3.below b4
  have hr4 := hr3.below b4
  clear b4 B3 hb3 hr3 hbt'
  by_cases hlt : ja < jb'
  · go_wp2
    go_ret3
    have h1 := Hat.out.less Hbt.out hlt
    refine ⟨_, _, rfl, ?_, ?_, B4⟩
    · rw [Nat.div_eq_of_lt h1]
      exact ⟨[], Rd.nil _ _, Num.Nrm.nil, rfl, Nat.zero_le _⟩
    · rw [Nat.mod_eq_of_lt h1]
      obtain ⟨l, e1, e2, e3, e4⟩ := hr4
      exact ⟨l, e1, e2, e3, e2.len_le (by rw [e3]; exact Nat.lt_trans h1 Hlb.out)⟩
  · obtain ⟨top, htop⟩ : ∃ top, ja = jb' + top := ⟨ja - jb', by omega⟩
    subst htop
    have htb : top ≤ 3200 := by omega
    have hdiv : ((jb' : Int) + (top : Int) - (jb' : Int)) = (top : Int) := by omega
    clear hlt
    go_wp2_with (at_make; refine wpList_make_u32 _ rfl (.tmp 29) (.tmp 29) 23 rfl 45 i0 Tryz.underlying23 hi hz0 hz1 hz2 .i64 .i64 _ _ (top / 32 + 1) rfl rfl (by omega) (by omega) (by omega) ?_; intro g w5 hg5 hown5 b5 hs5; have Hg := Lib.hid hg5; clear hg5)
    have hr5 : Ns w5 (· ≠ g) vr a k := (hr4.old.below b5).mono (fun i hi => by have := Hg.out; have := hi.2; omega)
    have hb5 := hb4.below b5
    have B5 := B4.trans (b5.mono B4.size)
    have Bg : w.heap.size ≤ g := by have := Hg.out; have := B4.size; omega
    clear hr4 hb4
    go_wp2_with fail
    refine (rshift_n top (by omega) hb5 (by omega)).mono ?_
    rintro e w6 ⟨vd, rfl, hd6, b6⟩
    have hr6 := hr5.below b6
    have hd6' : Ns w6 (· ≠ g) vd (b * 2 ^ top) (top / 32 + j + 1) := hd6.mono (fun i hi => by have := hown5.lt; omega)
    have hown6 := hown5.below b6 hown5.lt
    have hgr6 : w5.grownBy w6 (some g) := only_of b6
    have Hat' := Lib.hid (Hat.out.top Hbt.out hj0)
    clear hb5 hr5 hd6 hown5 b6
    go_wp2
    go_loopw [7, 10, 11] (fun vr vd i wr => DvInv 45 g top a b k (top / 32 + j + 1) w5 vr vd i wr) (fun _ _ i _ => (intOf i + 1).toNat)
    case atStart => exact ⟨top + 1, a, _, _, int_i64 (by omega), Nat.le_refl _, hr6, hd6', fun _ => rfl, hown6, by simp, Num.Lim.replicate _, Dv.zero _ _, by simp [Num.val_replicate], Hat'.out, hgr6⟩
    case round =>
      obtain ⟨p, r, D, q, rfl, hp, hr, hd, hD, hown, hql, hqL, hdv, hv, hrlt, hgr⟩ := hrel
      have HD := Lib.hid hD
      have Hql := Lib.hid hql
      have HqL := Lib.hid hqL
      have Hdv := Lib.hid hdv
      have Hv := Lib.hid hv
      have Hr := Lib.hid hrlt
      have hgl := hown.lt
      clear hD hql hqL hdv hv hrlt hr6 hd6' hown6 hgr6
      by_cases h0 : p = 0
      · subst h0
        have hrd : Rd wr (fun _ => True) (.slice (some ⟨g, 0, none⟩) (top / 32 + 1) (top / 32 + 1)) q := by have := hown.rd (fun _ => True) trivial HqL.out (by have := Hql.out; omega); rwa [Hql.out] at this
        go_wp2_with fail
        refine (rnorm_n ⟨q, hrd, rfl, Nat.le_of_eq Hql.out⟩ (by omega)).mono ?_
        rintro e w7 ⟨v1, rfl, h1, b7⟩
        go_wp2
        go_ret3
        have h2 := Hr.out
        rw [Nat.pow_zero, Nat.mul_one] at h2
        obtain ⟨e1, e2⟩ := dv_fin _ _ _ _ Hv.out h2
        have hbw : Below w.heap.size w wr := below_only B5 Bg hgr
        refine ⟨_, _, rfl, ?_, ?_, hbw.trans (b7.mono hbw.size)⟩
        · rw [e1] at h1
          obtain ⟨l, f1, f2, f3, f4⟩ := h1
          exact ⟨l, f1.mono (fun _ _ => trivial), f2, f3, f2.len_le (by rw [f3]; exact Nat.lt_of_le_of_lt (Nat.div_le_self _ _) Hla.out)⟩
        · rw [e2] at hr
          obtain ⟨l, f1, f2, f3, f4⟩ := hr.below b7
          exact ⟨l, f1.mono (fun _ _ => trivial), f2, f3, f2.len_le (by rw [f3]; exact Nat.lt_trans (Nat.mod_lt _ Hb0.out) Hlb.out)⟩
      · obtain ⟨t, s, hs, hp'⟩ : ∃ t s, s ≤ 31 ∧ p = 32 * t + s + 1 := ⟨(p - 1) / 32, (p - 1) % 32, by omega, by omega⟩
        subst hp'
        clear h0
        have HDe : Hid (D = b * 2 ^ (32 * t + s)) := HD.out (by omega)
        by_cases hlt : r < D
        · have Hlt := Lib.hid hlt
          clear hlt
          go_wp2_with fail
          refine (rsub_n0 hr.nz.nm hd.nz.nm (by omega) (by omega) Hlt.out).mono ?_
          rintro e w7 ⟨rfl, b7⟩
          have hr7 := hr.below b7
          have hd7 := hd.below b7
          have hown7 := hown.below b7 hgl
          have hgr7 := only_trans hgr (only_of (r := some g) b7)
          have hgl7 := hown7.lt
          clear hr hd hown hgr b7
          go_wp2_with fail
          refine (rhalf_n hd7.nz.nm (by omega)).mono ?_
          rintro e w8 ⟨vh, rfl, hd8, b8⟩
          go_wp2
          go_roundw
          case rel =>
            exact ⟨32 * t + s, r, D / 2, q, int_i64 (by omega), by omega, hr7.below b8, hd8.mono (fun i hi => by omega), dv_half b D _ HDe.out, hown7.below b8 hgl7, Hql.out, HqL.out, Hdv.out.down, Hv.out, by rw [← HDe.out]; exact Hlt.out, only_trans hgr7 (only_of b8)⟩
          case measure => simp [intOf] <;> omega
        · have Hge := Lib.hid (show D ≤ r by omega)
          clear hlt
          go_wp2_with fail
          refine (rsub_n hr.nz.nm hd.nz.nm (by omega) (by omega) Hge.out).mono ?_
          rintro e w7 ⟨vf, rfl, hf7, b7⟩
          have hf7' : Ns w7 (· ≠ g) vf (r - D) k := hf7.mono (fun i hi => by omega)
          have hd7 := hd.below b7
          have hown7 := hown.below b7 hgl
          have hgr7 := only_trans hgr (only_of (r := some g) b7)
          have hgl7 := hown7.lt
          obtain ⟨x, hx⟩ : ∃ x, q[t]? = some x := ⟨_, List.getElem?_eq_getElem (by have := Hql.out; omega)⟩
          have hcell := hown7.cel _ _ hx
          rw [Nat.zero_add] at hcell
          have hfr := hown7.frozen t
          have hxb : x < 4294967296 := HqL.out.at hx
          have hroom := Hdv.out.room hx hs hxb
          have Hx := Lib.hid hx
          have hq1 : (32 * (t : Int) + (s : Int)) / 32 = (t : Int) := by omega
          have hq2 : (32 * (t : Int) + (s : Int)) % 32 = (s : Int) := by omega
          clear hr hd hown hgr b7 hf7 hx
          have HZ : Hid (((x : Int) + 2 ^ s) % 4294967296 = ((x + 2 ^ s : Nat) : Int)) := by
            show _ = _
            have e1 : (2 : Int) ^ s = ((2 ^ s : Nat) : Int) := by simp
            rw [e1]
            generalize 2 ^ s = u at hroom
            omega
          have HW : ∀ z : Int, z = ((x + 2 ^ s : Nat) : Int) → Own 45 (w7.setCell ⟨g, t, none⟩ (.int .u32 z)) g (q.set t (x + 2 ^ s)) := by
            rintro z rfl
            exact hown7.set_ _ _
          have HWl := Lib.hid HW
          clear HW
          go_wp2_with fail
          refine (rhalf_n (hd7.only (only_setCell (only_refl _ _) _ _)).nz.nm (by omega)).mono ?_
          rintro e w8 ⟨vh, rfl, hd8, b8⟩
          have hsz : w7.heap.size ≤ w8.heap.size := by have := b8.size; simpa [World.setCell] using this
          have hown8 := (HWl.out _ HZ.out).below b8 (by simpa [World.setCell] using hgl7)
          have hf8 := (hf7'.only (only_setCell (only_refl _ _) t (.int .u32 (((x : Int) + 2 ^ s) % 4294967296)))).below b8
          have hgr8 := only_trans (only_trans hgr7 (only_setCell (only_refl _ _) t (.int .u32 (((x : Int) + 2 ^ s) % 4294967296)))) (only_of (r := some g) b8)
          have hsi : ∀ i, (w7.setCell ⟨g, t, none⟩ (.int .u32 (((x : Int) + 2 ^ s) % 4294967296))).heap.size ≤ i → w7.heap.size ≤ i := fun i hi => by simpa [World.setCell] using hi
          have hd8' : Ns w8 (· ≠ g) vh (D / 2) (top / 32 + j + 1) := hd8.mono (fun i hi => by have := hsi i hi; omega)
          clear b8 hd8 hd7 hf7' hgr7 hcell hfr
          go_wp2
          go_roundw
          case rel =>
            refine ⟨32 * t + s, r - D, D / 2, q.set t (x + 2 ^ s), int_i64 (by omega), by omega, hf8, hd8', dv_half b D _ HDe.out, hown8, by rw [List.length_set]; exact Hql.out, HqL.out.set _ _ hroom, Hdv.out.set Hx.out, ?_, ?_, hgr8⟩
            · refine dv_yes _ _ _ _ _ (2 ^ (32 * t + s)) _ Hv.out HDe.out Hge.out ?_
              have h1 := val_set q t x (x + 2 ^ s) Hx.out
              rw [Nat.mul_add, K_pow] at h1
              rw [Nat.pow_add]
              omega
            · have h1 := Hr.out
              have h2 := HDe.out
              rw [Nat.pow_succ, ← Nat.mul_assoc] at h1
              omega
          case measure => simp [intOf] <;> omega
theorem rmul_n {w : World} {va vb : Value} {a b k j : Nat} (ha : Nm w va a k) (hb : Nm w vb b j) (hk : k ≤ 1000) (hj : j ≤ 1000) : Calls Tryz.prog 62 #[va, vb] w (NsEnd (a * b) (k + j) w) := by
  have h1 := ha.lt
  have h2 := hb.lt
  obtain ⟨la, ra, rfl, na⟩ := ha
  obtain ⟨lb, rb, rfl, nb⟩ := hb
  exact (rmul_walk _ _ la lb w ra rb (by omega) (by omega)).mono fun e w' h => h.ns _ (mul_lt' h1 h2)
theorem div_n0b {w : World} {va vb : Value} {a b k j : Nat} (ha : Nm w va a k) (hb : Nm w vb b j) (h0 : b = 0) :
    Calls Tryz.prog 56 #[va, vb] w fun e w' => e = .returned (.tuple #[.slice none 0 0, .slice none 0 0, .bool false]) ∧ Below w.heap.size w w' :=
  (div_n0 ha hb h0).mono fun e w' ⟨he, hw⟩ => by
    subst hw
    exact ⟨he, Below.refl _ _⟩
end Go.Proofs.YtohlilgnognmgaaGreatDoor
/-
  The walk of garmentref01.Gcd.
-/
namespace Go.Proofs.YtohlilgnognmgaaGreatDoor
open Go.RowKit

/-- The loop of Gcd; gk: the second number. -/
def GcInv (a b k : Nat) (w : World) (gk : Nat) (vx vy : Value) (wr : World) : Prop :=
  ∃ x, Nz wr vx x k ∧ Nz wr vy gk k ∧ Nat.gcd x gk = Nat.gcd a b ∧ Below w.heap.size w wr

set_option maxRecDepth 4000 in
set_option maxHeartbeats 2000000 in
theorem rgcd_n {w : World} {va vb : Value} {a b k j : Nat} (ha : Nm w va a k) (hb : Nm w vb b j) (hk : k ≤ 100) (hj : j ≤ 100) : Calls Tryz.prog 83 #[va, vb] w (NEnd (Nat.gcd a b) (max k j) w) := by
  obtain ⟨m, hm⟩ : ∃ m, m = max k j := ⟨_, rfl⟩
  rw [← hm]
  have hkm : k ≤ m := by omega
  have hjm : j ≤ m := by omega
  have hmb : m ≤ 100 := by omega
  clear hm
  go_enter Tryz.func83, Tryz.ntmps83
  go_wp2_with fail
  refine (rnorm_n ha (by omega)).mono ?_
  rintro e w1 ⟨vx, rfl, hx1, b1⟩
  have hb1 := hb.below b1
  clear ha hb
  go_wp2_with fail
  refine (rnorm_n hb1 (by omega)).mono ?_
  rintro e w2 ⟨vy, rfl, hy2, b2⟩
  have hx2 := hx1.nz.below b2
  have B2 := b1.trans (b2.mono b1.size)
  have hx3 := hx2.wide hkm
  have hy3 := hy2.nz.wide hjm
  clear b1 b2 hb1 hx1 hx2 hy2
  go_wp2
  go_loopg [5, 6] b (fun gk vx vy wr => GcInv a b m w gk vx vy wr)
  case atStart => exact ⟨a, hx3, hy3, rfl, B2⟩
  case round =>
    obtain ⟨x, hx, hy, hg, hbl⟩ := hrel
    have Hg := Lib.hid hg
    clear hg hx3 hy3 B2
    by_cases h0 : gk = 0
    · subst h0
      obtain ⟨A, c, rfl⟩ := hy.empty
      clear hy
      go_wp2
      go_ret
      have h1 := Hg.out
      rw [Nat.gcd_zero_right] at h1
      subst h1
      exact ⟨_, rfl, hx, hbl⟩
    · have hpos : 0 < gk := by omega
      obtain ⟨A, n, c, rfl, hn⟩ := hy.holds_some hpos
      have Hpos := Lib.hid hpos
      clear hpos h0
      go_wp2_with fail
      refine (rdiv_n hx.nm hy.nm hmb hmb Hpos.out).mono ?_
      rintro e w3 ⟨v1, v2, rfl, h1, h2, b3⟩
      have hy3 := hy.below b3
      have B3 := hbl.trans (b3.mono hbl.size)
      clear hx hy h1 b3
      go_wp2
      go_roundg (x % gk)
      case measure => exact Nat.mod_lt _ Hpos.out
      case rel => exact ⟨gk, hy3, h2, by rw [← Hg.out, Nat.gcd_comm x gk, Nat.gcd_rec gk x, Nat.gcd_comm], B3⟩
end Go.Proofs.YtohlilgnognmgaaGreatDoor
/-
  The walk of garmentref01.small.
-/
namespace Go.Proofs.YtohlilgnognmgaaGreatDoor
open Go.RowKit

/-- The loop of small: the limbs from j on are done. -/
def SmInv (e : TypeId) (g n : Nat) (la : List Nat) (w : World) (rv i : Value) (wr : World) : Prop :=
  ∃ (j r : Nat) (q : List Nat), i = .int .i64 ((j : Int) - 1) ∧ j ≤ n ∧ rv = .int .u64 (r : Int) ∧ r < 10 ∧ Own e wr g q ∧ q.length = n ∧ Num.Lim q ∧ Num.val (q.drop j) * 10 + r = Num.val (la.drop j) ∧ w.grownBy wr (some g)
theorem sm_num (Qd r V K x d r' : Nat) (hv : Qd * 10 + r = V) (hd : d * 10 + r' = r * K + x) : (d + K * Qd) * 10 + r' = x + K * V := by
  subst hv
  rw [Nat.add_mul, Nat.mul_add, Nat.mul_assoc K Qd 10, Nat.mul_comm K r]
  omega
def SmEnd (a k : Nat) (w : World) (e : Ending) (w' : World) : Prop := ∃ v, e = .returned (.tuple #[v, .int .u64 ((a % 10 : Nat) : Int)]) ∧ Nz w' v (a / 10) k ∧ Below w.heap.size w w'
set_option maxRecDepth 4000 in
set_option maxHeartbeats 2000000 in
theorem rsmall_n {w : World} {va : Value} {a k : Nat} (ha : Nm w va a k) (hk : k ≤ 1000) : Calls Tryz.prog 81 #[va, .int .u64 10] w (SmEnd a k w) := by
  obtain ⟨i0, hi, hz0, hz1, hz2⟩ := info_parts info_u32
  have Hlt := Lib.hid ha.lt
  obtain ⟨la, ra, hva, hla⟩ := ha
  obtain ⟨A, n, c, rfl, Hn, hnc, hc, HLa, hA⟩ := ra.open_
  have hn : n ≤ k := by have := Hn.out; omega
  have Hva := Lib.hid hva
  have hA1 := hA.old
  clear ra hva hla hA
  go_enter Tryz.func81, Tryz.ntmps81
  go_wp2_with (at_make; refine wpList_make_u32 _ rfl (.tmp 11) (.tmp 11) 23 rfl 45 i0 Tryz.underlying23 hi hz0 hz1 hz2 .i64 .i64 _ _ n rfl rfl (by omega) (by omega) (by omega) ?_; intro g w1 hg1 hown1 hb1 hs1; have Hg := Lib.hid hg1; clear hg1)
  have hA2 : Cel w1 (· ≠ g) A la := hA1.keep (fun i hi => by have := Hg.out; have := hi.2; omega) (fun i o hi => hb1.cell (p := ⟨i, o, none⟩) hi.2)
  have Bg : w.heap.size ≤ g := by have := Hg.out; omega
  clear hA1
  go_loopw [7, 8] (fun rv i wr => SmInv 45 g n la w1 rv i wr) (fun _ i _ => (intOf i + 1).toNat)
  case atStart => exact ⟨n, 0, _, int_i64 (by omega), Nat.le_refl _, rfl, by omega, hown1, by simp, Num.Lim.replicate _, by rw [List.drop_of_length_le (by simp), List.drop_of_length_le (by have := Hn.out; omega)]; simp [Num.val], only_refl _ _⟩
  case round =>
    obtain ⟨j, r, q, rfl, hj, rfl, hr, hown, hql, hqL, hv, hgr⟩ := hrel
    have Hql := Lib.hid hql
    have HqL := Lib.hid hqL
    have Hv := Lib.hid hv
    clear hql hqL hv hown1
    by_cases h0 : j = 0
    · subst h0
      have hrd : Rd wr (fun _ => True) (.slice (some ⟨g, 0, none⟩) n n) q := by have := hown.rd (fun _ => True) trivial HqL.out (by have := Hql.out; omega); rwa [Hql.out] at this
      go_wp2_with fail
      refine (rnorm_n ⟨q, hrd, rfl, Nat.le_of_eq Hql.out⟩ (by omega)).mono ?_
      rintro e w7 ⟨v1, rfl, h1, b7⟩
      go_wp2
      go_ret2
      have h2 := Hv.out
      rw [List.drop_zero, List.drop_zero, Hva.out] at h2
      have e1 : Num.val q = a / 10 := by omega
      have e2 : r = a % 10 := by omega
      have hbw : Below w.heap.size w wr := below_only hb1 Bg hgr
      refine ⟨v1, by rw [e2]; rfl, ?_, hbw.trans (b7.mono hbw.size)⟩
      rw [← e1]
      obtain ⟨l, f1, f2, f3, f4⟩ := h1
      exact ⟨l, f1.mono (fun _ _ => trivial), f2, f3, Nat.le_trans f4 hn⟩
    · obtain ⟨p, rfl⟩ : ∃ p, j = p + 1 := ⟨j - 1, by omega⟩
      clear h0
      have hxb := lm_lt HLa.out p
      obtain ⟨x, hx⟩ : ∃ x, x = lm la p := ⟨_, rfl⟩
      have L1 := Lib.hid (fun w => limb_walk A n c p la w Hn.out (by omega) (by omega) HLa.out)
      rw [← hx] at hxb L1
      have Hx := Lib.hid hx
      clear hx
      have hA3 : Cel wr (fun _ => True) A la := (hA2.only (fun _ h => h) hgr).mono (fun _ _ => trivial)
      obtain ⟨u, hu⟩ : ∃ u, q[p]? = some u := ⟨_, List.getElem?_eq_getElem (by have := Hql.out; omega)⟩
      have hcell := hown.cel _ _ hu
      rw [Nat.zero_add] at hcell
      have hfr := hown.frozen p
      have hplt : p < q.length := by have := Hql.out; omega
      have HP := Lib.hid hplt
      have HW : ∀ z : Int, z = (((r * 4294967296 + x) / 10 : Nat) : Int) → Own 45 (wr.setCell ⟨g, p, none⟩ (.int .u32 z)) g (q.set p ((r * 4294967296 + x) / 10)) := by
        rintro z rfl
        exact hown.set_ _ _
      have HWl := Lib.hid HW
      clear HW hu hplt
      go_wp2_with fail
      refine (L1.out _ hA3).mono ?_
      rintro e w' ⟨rfl, rfl⟩
      go_wp2
      go_roundw
      case rel =>
        refine ⟨p, (r * 4294967296 + x) % 10, q.set p ((r * 4294967296 + x) / 10), int_i64 (by omega), by omega, int_u64 (by omega), by omega, HWl.out _ (by omega), by rw [List.length_set]; exact Hql.out, HqL.out.set _ _ (by rw [Num.K_eq]; omega), ?_, only_setCell hgr _ _⟩
        have e1 : lm (q.set p ((r * 4294967296 + x) / 10)) p = (r * 4294967296 + x) / 10 := lm_at (List.getElem?_set_self HP.out)
        have e3 : (q.set p ((r * 4294967296 + x) / 10)).drop (p + 1) = q.drop (p + 1) := by rw [List.drop_set]; simp
        rw [drop_lm _ p, e1, e3, drop_lm la p, ← Hx.out]
        exact sm_num _ _ _ _ _ _ _ Hv.out (by rw [Num.K_eq]; omega)
      case measure => simp [intOf] <;> omega
end Go.Proofs.YtohlilgnognmgaaGreatDoor
/-
  The walk of garmentref01.Text.
-/
namespace Go.Proofs.YtohlilgnognmgaaGreatDoor
open Go.RowKit

def decD (m : Nat) : List UInt8 := if m = 0 then [] else Lib.decDigits m
theorem decD_step (m d : Nat) (hm : 0 < m) (hd : m % 10 = d) : decD m = decD (m / 10) ++ [UInt8.ofNat (48 + d)] := by
  subst hd
  unfold decD
  rw [if_neg (by omega)]
  by_cases h : m < 10
  · rw [if_pos (by omega), Lib.decDigits_one h, Nat.mod_eq_of_lt h]
    rfl
  · rw [if_neg (by omega), Txt.dec_big m h]
def SmdEnd (a k : Nat) (w : World) (e : Ending) (w' : World) : Prop := ∃ (v : Value) (d : Nat), a % 10 = d ∧ d < 10 ∧ e = .returned (.tuple #[v, .int .u64 (d : Int)]) ∧ Nz w' v (a / 10) k ∧ Below w.heap.size w w'
theorem rsmall_d {w : World} {va : Value} {a k : Nat} (ha : Nm w va a k) (hk : k ≤ 1000) : Calls Tryz.prog 81 #[va, .int .u64 10] w (SmdEnd a k w) :=
  (rsmall_n ha hk).mono fun _ _ ⟨v, he, h1, h2⟩ => ⟨v, a % 10, rfl, Nat.mod_lt _ (by omega), he, h1, h2⟩
theorem str_ext {s t : ByteArray} (h : s.data.toList = t.data.toList) : s = t := by
  cases s with | mk x => cases t with | mk y =>
  rw [ByteArray.mk.injEq]
  exact Array.toList_inj.1 h
theorem text_end {s t : ByteArray} {a : Nat} (h : decD a = decD 0 ++ s.data.toList) (ht : t.data.toList = Lib.decDigits a) : (s.toList.isEmpty = false → s = t) ∧ (s.toList.isEmpty = true → (⟨#[48]⟩ : ByteArray) = t) := by
  have h0 : decD a = s.data.toList := by rw [h]; simp [decD]
  rw [ByteArray.toList_eq]
  by_cases ha : a = 0
  · subst ha
    have h1 : s.data.toList = [] := by rw [← h0]; simp [decD]
    rw [h1]
    refine ⟨by simp, fun _ => str_ext ?_⟩
    rw [ht, Lib.decDigits_one (by omega)]
    rfl
  · unfold decD at h0
    rw [if_neg ha] at h0
    refine ⟨fun _ => str_ext (by rw [ht, ← h0]), fun hc => absurd hc ?_⟩
    rw [← h0]
    simpa using Txt.dec_ne a
theorem bytes_conv (W : World) (z : Int) (d : Nat) (hz : z = ((48 + d : Nat) : Int)) (hd : d < 10) (g : Nat) (hg : g = W.heap.size) :
    (convert 98 9 (.slice (some ⟨g, 0, none⟩) 1 1)).run Tryz.prog (W.alloc (.cells #[.int .u8 z] 5)) = .ok (.string ⟨#[UInt8.ofNat (48 + d)]⟩) (W.alloc (.cells #[.int .u8 z] 5)) := by
  subst hz
  subst hg
  have h := run_convert_bytes_back (P := Tryz.prog) (W.alloc (.cells #[.int .u8 ((48 + d : Nat) : Int)] 5)) 98 9 5 ⟨W.heap.size, 0, none⟩ 1 [UInt8.ofNat (48 + d)] Tryz.underlying98 Tryz.underlying5 Tryz.underlying9 (by
    intro j hj
    have hj0 : j = 0 := by simp at hj; omega
    subst hj0
    have e1 : ((⟨W.heap.size, 0, none⟩ : Addr).add 0) = ⟨W.heap.size, 0, none⟩ := rfl
    rw [e1, World.cell?_alloc_mark]
    simp only [List.getElem_cons_zero, Txt.chr d hd]
    rfl)
  exact h
/-- The loop of Text; gk: the number that is left. -/
def TxInv (a k : Nat) (w : World) (gk : Nat) (sv vn : Value) (wr : World) : Prop :=
  ∃ s : ByteArray, sv = .string s ∧ Nz wr vn gk k ∧ decD a = decD gk ++ s.data.toList ∧ Below w.heap.size w wr

set_option maxRecDepth 4000 in
set_option maxHeartbeats 2000000 in
theorem rtext_n {w : World} {va : Value} {a k : Nat} (ha : Nm w va a k) (hk : k ≤ 1000) (t : ByteArray) (ht : t.data.toList = Lib.decDigits a) : Calls Tryz.prog 46 #[va] w (StrEnd t w) := by
  have Ht := Lib.hid ht
  have Hlen : Hid ((decD a).length ≤ 10 * k + 10) := by
    show _ ≤ _
    have h1 : a < 10 ^ (10 * k + 10) := by
      have h2 : Num.K ^ k ≤ (10 ^ 10) ^ k := Nat.pow_le_pow_left (by decide) k
      rw [← Nat.pow_mul] at h2
      exact Nat.lt_of_lt_of_le ha.lt (Nat.le_trans h2 (Nat.pow_le_pow_right (by omega) (by omega)))
    unfold decD
    split
    · simp
    · exact Txt.dec_length_le a _ h1 (by omega)
  clear ht
  go_enter Tryz.func46, Tryz.ntmps46
  go_wp2_with fail
  refine (rnorm_n ha hk).mono ?_
  rintro e w1 ⟨vn, rfl, hn1, b1⟩
  have hn1 := hn1.nz
  clear ha
  go_wp2
  go_loopg [3, 4] a (fun gk sv vn wr => TxInv a k w gk sv vn wr)
  case atStart => exact ⟨ByteArray.empty, rfl, hn1, by rw [show (ByteArray.empty : ByteArray).data.toList = [] from rfl, List.append_nil], b1⟩
  case round =>
    obtain ⟨s, rfl, hn, hdec, hbl⟩ := hrel
    have Hdec := Lib.hid hdec
    clear hdec hn1 b1
    by_cases h0 : gk = 0
    · subst h0
      obtain ⟨A, c, rfl⟩ := hn.empty
      clear hn
      have He := Lib.hid (text_end Hdec.out Ht.out)
      by_cases hs0 : s.toList.isEmpty = true
      · go_wp2
        go_ret
        exact ⟨by rw [← He.out.2 hs0]; rfl, hbl⟩
      · have hs1 : s.toList.isEmpty = false := by simpa using hs0
        clear hs0
        go_wp2
        go_ret
        exact ⟨by rw [← He.out.1 hs1]; rfl, hbl⟩
    · have hpos : 0 < gk := by omega
      obtain ⟨A, n, c, rfl, hn0⟩ := hn.holds_some hpos
      have Hpos := Lib.hid hpos
      clear hpos h0
      go_wp2_with fail
      refine (rsmall_d hn.nm hk).mono ?_
      rintro e w3 ⟨v1, d, hd, hd10, rfl, h1, b3⟩
      have Hd := Lib.hid hd
      have hsz : s.size ≤ 20000 := by
        have h1 := congrArg List.length Hdec.out
        rw [List.length_append] at h1
        have h2 := Hlen.out
        have h3 : s.data.toList.length = s.size := by simp
        omega
      have hcv := bytes_conv w3 (48 + (d : Int)) d (by omega) hd10 w3.heap.size rfl
      obtain ⟨ch, hch⟩ : ∃ ch, ch = UInt8.ofNat (48 + d) := ⟨_, rfl⟩
      rw [← hch] at hcv
      have Hch := Lib.hid hch
      clear hch
      have B3 := hbl.trans (b3.mono hbl.size)
      clear hd hn hbl b3
      go_wp2
      go_roundg (gk / 10)
      case measure => have := Hpos.out; omega
      case rel =>
        refine ⟨_, rfl, h1.below (below_alloc _ _), ?_, B3.trans ((below_alloc _ _).mono B3.size)⟩
        have e1 : ((⟨#[ch]⟩ : ByteArray) ++ s).data.toList = [ch] ++ s.data.toList := by
          rw [ByteArray.data_append, Array.toList_append]
        rw [e1, ← List.append_assoc, Hch.out, ← decD_step gk d Hpos.out Hd.out]
        exact Hdec.out
end Go.Proofs.YtohlilgnognmgaaGreatDoor
/-
  The walk of garmentref01.Digits.
-/
namespace Go.Proofs.YtohlilgnognmgaaGreatDoor
open Go.RowKit

theorem data_len (s : ByteArray) : s.data.toList.length = s.size := by simp
theorem data_ne {s : ByteArray} (h : 0 < s.size) : s.data.toList ≠ [] := by
  intro e
  have h1 := data_len s
  rw [e, List.length_nil] at h1
  omega
end Go.Proofs.YtohlilgnognmgaaGreatDoor
/-
  The walks of garmentref01.Value and Parse.
-/
namespace Go.Proofs.YtohlilgnognmgaaGreatDoor
open Go.RowKit

theorem Nz.carry {w0 w w' : World} {v : Value} {m k : Nat} (hb : Below w.heap.size w w') (h : Nz w0 v m k) (e : w.heap = w0.heap) : Nz w' v m k := by
  have h1 : Nz w v m k := by
    obtain ⟨l, ⟨A, c, e1, e2, e3, e4, e5⟩, h2⟩ := h
    refine ⟨l, ⟨A, c, e1, e2, e3, e4, fun hl => ?_⟩, h2⟩
    obtain ⟨g, off, f1, f2, f3⟩ := e5 hl
    exact ⟨g, off, f1, f2, fun j x hx => by
      have := f3 j x hx
      unfold World.cell? at this ⊢
      rw [e]
      exact this⟩
  exact h1.below hb
theorem rof_z {w : World} (z : Int) (n : Nat) (hz : z = (n : Int)) (hn : n < 18446744073709551616) : Calls Tryz.prog 47 #[.int .u64 z] w (NEnd n 2 w) := by
  subst hz
  exact rof_n n hn
theorem dec_bound {s : ByteArray} (hn : isNum s.data.toList = true) (k : Nat) (hk : k ≤ 200) : decVal (s.data.toList.take k) < Num.K ^ 200 := by
  have h1 := decVal_lt (s.data.toList.take k) (fun c hc => by
    obtain ⟨j, hj⟩ := List.getElem?_of_mem (List.mem_of_mem_take hc)
    exact (isNum_dgt hn hj).2)
  have h2 : (s.data.toList.take k).length ≤ 200 := by rw [List.length_take]; omega
  have h3 : 10 ^ (s.data.toList.take k).length ≤ Num.K ^ 200 := Nat.le_trans (Nat.pow_le_pow_right (by omega) h2) (Nat.pow_le_pow_left (by decide) 200)
  exact Nat.lt_of_lt_of_le h1 h3
end Go.Proofs.YtohlilgnognmgaaGreatDoor
