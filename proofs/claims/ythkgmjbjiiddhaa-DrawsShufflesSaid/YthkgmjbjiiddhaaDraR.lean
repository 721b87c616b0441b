/-
  The walks of the reference's functions of lists: Shuffle, among, Sample, Same.
-/
import Derived.Test.YthkgmjbjiiddhaaDraQ
namespace Go.Proofs.Ythkgmjbjiiddhaa
open Go.RowKit Dra
set_option linter.unusedVariables false

theorem RdI.cel {w : World} {A : Option Addr} {n c : Nat} {l : List Nat} (h : RdI w (.slice A n c) l) (h0 : 0 < l.length) : ∃ g off, A = some ⟨g, off, none⟩ ∧ CelI w g off l := by
  obtain ⟨A', c', e, h1, h2, h3⟩ := h
  simp only [Value.slice.injEq] at e
  obtain ⟨rfl, -, rfl⟩ := e
  exact h3 h0
/-- append of numbers to a row of the call's own, or to nil. -/
theorem wpList_append_i64 {P : Program} {w : World} {ops : Array Oper} {rest : List Oper} {o : Oper} {a : Act} {Q : Exit → Act → World → Prop} (hgd : o.guard = none) (s x : Operand) (t : TypeId)
    (ho : o.op = .call { callee := .builtin .append, args := #[s, x], argTypes := #[t, t] }) (base : Nat) (e : TypeId) (i : TypeInfo) (ht : P.underlying t = some (.slice e)) (hi : P.info? e = some i) (hz : i.zero = some (.int .i64 0)) (hsize : i.size = 1) (hby : i.bytes = 8)
    (v : Value) (l : List Nat) (hs : a.eval s = v) (hrow : w.ownsRow base e 1 v l.length (l.map Vi)) (g' off' m c : Nat) (news : List Nat) (hx : a.eval x = .slice (some ⟨g', off', none⟩) m c) (hm : news.length = m) (hcel : CelI w g' off' news)
    (hb : l.length + m ≤ 1000000) (hbase : base ≤ w.heap.size)
    (h : ∀ v' w', w'.ownsRow base e 1 v' (l ++ news).length ((l ++ news).map Vi) → w.grownBy w' v.ownBlock → wpList P ops Q rest (a.put o.dst v') w') : wpList P ops Q (o :: rest) a w := by
  subst hm
  refine wpList_append_own (P := P) w hgd s x t ho base e i (.int .i64 0) 1 8 ht hi hz hsize hby rfl (by decide) v l.length (l.map Vi) hs hrow ⟨g', off', none⟩ news.length c (news.map Vi) hx (by simp) ?_ ?_ (by unfold maxLen; omega) (by omega) hbase ?_
  · intro j u hu
    rw [List.getElem?_map] at hu
    cases hn : news[j]? with
    | none => rw [hn] at hu; cases hu
    | some y =>
      rw [hn] at hu
      injection hu with hu
      rw [← hu, show (⟨g', off', none⟩ : Addr).add j = ⟨g', off' + j, none⟩ from by unfold Addr.add; split <;> simp_all]
      exact hcel j y hn
  · intro u hu
    obtain ⟨y, _, rfl⟩ := List.mem_map.1 hu
    rfl
  · intro v' w' hown' hg _
    exact h v' w' (by rw [List.length_append, List.map_append]; exact hown') hg
set_option maxRecDepth 20000 in
set_option maxHeartbeats 1000000 in
theorem same_walk (va vb : Value) (la lb : List Nat) (w : World) (ha : RdI w va la) (hb : RdI w vb lb) (hla : la.length ≤ 100000) (hlb : lb.length ≤ 100000) :
    Calls Try.prog 19 #[va, vb] w fun e w' => e = .returned (.bool (la == lb)) ∧ Below w.heap.size w w' := by
  obtain ⟨A, n, c, rfl, Hn, hnc, hc, hcel⟩ := ha.named
  obtain ⟨A', n', c', rfl, Hn', hnc', hc', hcel'⟩ := hb.named
  have hn1 : n ≤ 100000 := by have := Hn.out; omega
  have hn2 : n' ≤ 100000 := by have := Hn'.out; omega
  go_enter Try.func19, Try.ntmps19
  by_cases hnn : n = n'
  · subst hnn
    go_wp2
    go_loopw [5] (fun i wr => ∃ k : Nat, k ≤ n ∧ i = .int .i64 (k : Int) ∧ Hid (la.take k = lb.take k) ∧ RdI wr (.slice A n c) la ∧ RdI wr (.slice A' n c') lb ∧ Below w.heap.size w wr) (fun i _ => n - (intOf i).toNat)
    case atStart => exact ⟨0, Nat.zero_le _, rfl, Lib.hid (by simp), ha, hb, Below.refl _ _⟩
    case round =>
      obtain ⟨k, hk, rfl, hE, ha, hb, hB⟩ := hrel
      by_cases hlt : k < n
      · obtain ⟨g, off, rfl, hC⟩ := ha.cel (by have := Hn.out; omega)
        obtain ⟨g', off', rfl, hC'⟩ := hb.cel (by have := Hn'.out; omega)
        obtain ⟨x, hx⟩ : ∃ x, la[k]? = some x := ⟨_, List.getElem?_eq_getElem (by have := Hn.out; omega)⟩
        obtain ⟨y, hy⟩ : ∃ y, lb[k]? = some y := ⟨_, List.getElem?_eq_getElem (by have := Hn'.out; omega)⟩
        have hcx := hC k x hx
        have hcy := hC' k y hy
        have Hx := Lib.hid hx
        have Hy := Lib.hid hy
        clear hx hy hC hC' hcel hcel'
        by_cases hxy : x = y
        · subst hxy
          go_wp2
          go_quiet (fail)
          go_wp2
          go_roundw
          case rel => exact ⟨k + 1, by omega, by go_num, Lib.hid (by rw [List.take_add_one, List.take_add_one, Hx.out, Hy.out, hE.out]), ha, hb, bs_drewN hB _⟩
          case measure => simp [intOf]; omega
        · have hne : ((x : Int) == (y : Int)) = false := by simp; omega
          go_wp2
          go_quiet (fail)
          go_wp2
          go_ret
          have hm : ¬ (la = lb) := fun h => hxy (by have h1 := Hx.out; rw [h, Hy.out] at h1; exact (Option.some.inj h1).symm)
          exact ⟨by rw [beq_eq_false_iff_ne.2 hm]; rfl, bs_drewN hB _⟩
      · obtain rfl : k = n := by omega
        go_wp2
        go_ret
        have hm : la = lb := by have := hE.out; rwa [List.take_of_length_le (by have := Hn.out; omega), List.take_of_length_le (by have := Hn'.out; omega)] at this
        exact ⟨by rw [beq_iff_eq.2 hm]; rfl, hB⟩
  · go_wp2
    go_ret
    have hm : ¬ (la = lb) := fun h => hnn (by have h1 := Hn.out; have h2 := Hn'.out; rw [h] at h1; omega)
    exact ⟨by rw [beq_eq_false_iff_ne.2 hm]; rfl, Below.refl _ _⟩
set_option maxRecDepth 20000 in
set_option maxHeartbeats 1000000 in
theorem among_walk (va : Value) (la : List Nat) (x : Nat) (w : World) (ha : RdI w va la) (hla : la.length ≤ 100000) :
    Calls Try.prog 30 #[va, .int .i64 (x : Int)] w fun e w' => e = .returned (.bool (decide (x ∈ la))) ∧ w = w' := by
  obtain ⟨A, n, c, rfl, Hn, hnc, hc, hcel⟩ := ha.named
  have hn1 : n ≤ 100000 := by have := Hn.out; omega
  go_enter Try.func30, Try.ntmps30
  go_wp2
  go_loop [5] (fun i => ∃ k : Nat, k ≤ n ∧ i = .int .i64 (k : Int) ∧ Hid (x ∉ la.take k)) (fun i => n - (intOf i).toNat)
  case atStart => exact ⟨0, Nat.zero_le _, rfl, Lib.hid (by simp)⟩
  case round =>
    obtain ⟨k, hk, rfl, hno⟩ := hrel
    by_cases hlt : k < n
    · obtain ⟨g, off, rfl, hC⟩ := hcel.out (by have := Hn.out; omega)
      obtain ⟨y, hy⟩ : ∃ y, la[k]? = some y := ⟨_, List.getElem?_eq_getElem (by have := Hn.out; omega)⟩
      have hcell := hC k y hy
      have Hy := Lib.hid hy
      have HC := Lib.hid hC
      clear hy hC
      by_cases hxy : y = x
      · subst hxy
        go_wp2
        go_ret
        have hm : y ∈ la := List.mem_of_getElem? Hy.out
        exact ⟨by rw [decide_eq_true hm]; rfl, rfl⟩
      · have hne : ((y : Int) == (x : Int)) = false := by simp; omega
        go_wp2
        go_round
        case rel => exact ⟨k + 1, by omega, by go_num, Lib.hid (by rw [List.take_add_one, Hy.out]; simp; exact ⟨hno.out, fun h => hxy h.symm⟩)⟩
        case measure => simp [intOf]; omega
    · obtain rfl : k = n := by omega
      go_wp2
      go_ret
      have hm : ¬ x ∈ la := by have := hno.out; rwa [← Hn.out, List.take_length] at this
      exact ⟨by rw [decide_eq_false hm]; rfl, rfl⟩
set_option maxRecDepth 20000 in
set_option maxHeartbeats 1000000 in
theorem rshuffle_walk (d : Nat) (n : Int) (w : World) (hd : d < 18446744073709551616) :
    Calls Try.prog 18 #[.int .u64 (d : Int), .int .i64 n] w fun e w' => ∃ g, e = .returned (.tuple #[.int .u64 (skp (lim n 1000 - 1) d : Int), .slice (some ⟨g, 0, none⟩) (lim n 1000) (lim n 1000)]) ∧ w.heap.size ≤ g ∧ OwI 3 w' g (shuf d (lim n 1000)) ∧ Below w.heap.size w w' := by
  obtain ⟨m, hm⟩ : ∃ m, lim n 1000 = m := ⟨_, rfl⟩
  have hm1 : m ≤ 1000 := by rw [← hm]; exact lim_n n
  rw [hm]
  have Hm := Lib.hid hm
  clear hm
  have Hd := Lib.hid hd
  clear hd
  obtain ⟨T, hT⟩ : ∃ T, skp (m - 1) d = T := ⟨_, rfl⟩
  obtain ⟨L, hL⟩ : ∃ L, shuf d m = L := ⟨_, rfl⟩
  rw [hT, hL]
  have HT := Lib.hid hT
  have HL := Lib.hid hL
  clear hT hL
  obtain ⟨i0, hi, hz0, hz1, hz2⟩ := info_parts info_i64
  go_enter Try.func18, Try.ntmps18
  go_wp2_with (first
    | (go_at_call 28; refine (limited_walk n 1000 _).mono ?_; rintro e w1 ⟨rfl, rfl⟩; rw [Hm.out])
    | (at_make; refine wpList_make_i64 _ rfl (.tmp 14) (.tmp 14) 29 rfl 3 i0 Try.underlying29 hi hz0 hz1 (by omega) .i64 .i64 m m m rfl rfl rfl rfl (by omega) ?_; intro g w1 hg1 hown1 hb1 hs1; have Hg := Lib.hid hg1; clear hg1))
  have hU : OwI 3 w1 g (upto 0 m) := by rw [upto_zero]; exact hown1
  have HG : Hid (w.heap.size ≤ g) := by have := Hg.out; show _ ≤ _; omega
  clear hown1
  go_loopw [7] (fun i wr => ∃ k : Nat, k ≤ m ∧ i = .int .i64 (k : Int) ∧ OwI 3 wr g (upto k m) ∧ Below w.heap.size w wr) (fun i _ => m - (intOf i).toNat)
  case atStart => exact ⟨0, Nat.zero_le _, rfl, hU, hb1⟩
  case round =>
    obtain ⟨k, hk, rfl, hU, hB⟩ := hrel
    by_cases hlt : k < m
    · have hcell := hU.cell k 0 (by simp [upto, hlt])
      have hfr := hU.frozen k
      go_wp2
      go_roundw
      case rel => exact ⟨k + 1, by omega, by go_num, by rw [← upto_set k m hlt]; exact hU.set_ k k, hB.setCell HG.out _⟩
      case measure => simp [intOf]; omega
    · obtain rfl : k = m := by omega
      have hU : OwI 3 wr g (List.range k) := by rw [← upto_all]; exact hU
      go_wp2
      go_loopw [0, 8] (fun x z wr => ∃ Z : Int, z = .int .i64 Z ∧ Z < k ∧ -1 ≤ Z ∧ ShA T L k w.heap.size w g x Z wr) (fun _ z _ => (intOf z).toNat)
      case atStart =>
        refine ⟨(k : Int) - 1, by go_num, by omega, by omega, d, List.range k, rfl, Hd.out, hU, by simp, by omega, by omega, ?_, ?_, hB⟩
        · rw [← HL.out, show ((k : Int) - 1).toNat = k - 1 by omega]; rfl
        · rw [← HT.out, show ((k : Int) - 1).toNat = k - 1 by omega]
      case round =>
        obtain ⟨Z, rfl, hZ1, hZ2, D, l, rfl, hD, hU, hl, _, _, hS, hT, hB⟩ := hrel
        by_cases h1 : 1 ≤ Z
        · obtain ⟨i, rfl⟩ : ∃ i : Nat, Z = (i : Int) := ⟨Z.toNat, by omega⟩
          have hji := bel_lt D (i + 1) (by omega)
          obtain ⟨j, hj⟩ : ∃ j, j = bel D (i + 1) := ⟨_, rfl⟩
          rw [← hj] at hji
          obtain ⟨a, ha⟩ : ∃ a, l[i]? = some a := ⟨_, List.getElem?_eq_getElem (by omega)⟩
          obtain ⟨b, hb⟩ : ∃ b, l[j]? = some b := ⟨_, List.getElem?_eq_getElem (by omega)⟩
          have HD := Lib.hid hD
          have Hl := Lib.hid hl
          have HS := Lib.hid hS
          have HTT := Lib.hid hT
          have Hj := Lib.hid hj
          have Ha := Lib.hid ha
          have Hb := Lib.hid hb
          clear hD hl hS hT hj ha hb
          go_wp2_with (go_at_call 15; refine (rbelow_walk D _ _ HD.out).mono ?_; rintro e w2 ⟨rfl, bb⟩; rw [show ((i : Int) + 1).toNat = i + 1 by omega, ← Hj.out]; have hU := hU.below bb hU.lt; have hB := hB.trans (bb.mono hB.size); clear bb; have hca := hU.cell i a Ha.out; have hcb := hU.cell j b Hb.out; have hfa := hU.frozen i; have hfb := hU.frozen j; have hcj : (w2.setCell ⟨g, i, none⟩ (.int .i64 (b : Int))).cell? ⟨g, j, none⟩ = some (.int .i64 (b : Int)) := (hU.set_ i b).cell j b (set_at l i j b Hb.out); have hfj : (w2.setCell ⟨g, i, none⟩ (.int .i64 (b : Int))).frozen? ⟨g, j, none⟩ = false := (hU.set_ i b).frozen j)
          go_roundw
          case rel => exact ⟨(i : Int) - 1, by go_num, by omega, by omega, (ShA.step hU Hl.out hZ1 rfl (by omega) Hj.out Ha.out Hb.out HS.out HTT.out hB HG.out)⟩
          case measure => simp [intOf]; omega
        · have e0 : Z.toNat = 0 := by omega
          rw [e0, shw_zero] at hS
          rw [e0, skp_zero] at hT
          subst hS hT
          clear hD
          go_wp2
          go_ret2
          exact ⟨g, rfl, HG.out, hU, hB⟩

theorem RdI.of_row {w : World} {base : Nat} {e : TypeId} {v : Value} {l : List Nat} (h : w.ownsRow base e 1 v l.length (l.map Vi)) (hl : l.length ≤ 1000000) : RdI w v l := by
  rcases h.2 with ⟨rfl, h2⟩ | ⟨g, cap, cur, rfl, _, hh, h1, h2, hs, ht⟩
  · have h0 : l = [] := by simpa using h2
    subst h0
    exact RdI.nil w
  · refine ⟨_, cap, rfl, h1, by unfold maxLen at h2; omega, fun _ => ⟨g, 0, rfl, fun j x hx => ?_⟩⟩
    rw [Nat.zero_add, cell_of_row w g j _ e (0, 0) hh, ← Array.getElem?_toList]
    have hj := (List.getElem?_eq_some_iff.1 hx).1
    have h3 : (cur.toList.take (l.length * 1))[j]? = (l.map Vi)[j]? := by rw [ht]
    rw [List.getElem?_take_of_lt (by omega), List.getElem?_map, hx] at h3
    exact h3
theorem OwI.rdp {e : TypeId} {w : World} {g m p : Nat} {l : List Nat} (h : OwI e w g l) (hl : l.length = m) (hp : p ≤ m) (hm : m ≤ 1000000) : RdI w (.slice (some ⟨g, 0, none⟩) p m) (l.take p) := by
  subst hl
  exact (h.rd (by omega)).take p _ hp hp (by omega)
theorem lit_celI (W : World) (x : Nat) (e : TypeId) : CelI (W.alloc (.cells #[.int .i64 (x : Int)] e)) W.heap.size 0 [x] := fun j y hj => by
  rw [Nat.zero_add, cell_new]
  cases j with
  | zero => simp at hj; subst hj; rfl
  | succ j => simp at hj
theorem grown_2 {w : World} {o : Obj} {w' : World} {r : Option Nat} (h : (w.alloc o).grownBy w' r) (B : Nat) (w0 : World) (hB : Below B w0 w) (hs : B ≤ w.heap.size) (hr : ∀ k, r = some k → B ≤ k) : Below B w0 w' :=
  (hB.alloc hs o).grown h (by simp; omega) hr
/-- Between the rounds of Sample: the picked ones below i. -/
def SmA (m p : Nat) (l : List Nat) (w w1 : World) (g : Nat) (v : Value) (i : Nat) (wr : World) : Prop :=
  wr.ownsRow w1.heap.size 3 1 v (pick l i p).length ((pick l i p).map Vi) ∧ OwI 3 wr g l ∧ Below w1.heap.size w1 wr ∧ Below w.heap.size w wr
theorem pick_le (l : List Nat) (i p : Nat) : (pick l i p).length ≤ i := by
  have := List.length_filter_le (fun x => decide (x ∈ l.take p)) (List.range i)
  simpa [pick] using this
theorem pick_in (l : List Nat) (i p : Nat) (h : i ∈ l.take p) : pick l (i + 1) p = pick l i p ++ [i] := by
  have := pick_step l 0 p i
  rw [if_pos h] at this
  exact this
theorem pick_out (l : List Nat) (i p : Nat) (h : i ∉ l.take p) : pick l (i + 1) p = pick l i p := by
  have := pick_step l 0 p i
  rw [if_neg h, List.append_nil] at this
  exact this
set_option maxRecDepth 20000 in
set_option maxHeartbeats 1000000 in
theorem rsample_walk (d : Nat) (n k : Int) (w : World) (hd : d < 18446744073709551616) :
    Calls Try.prog 21 #[.int .u64 (d : Int), .int .i64 n, .int .i64 k] w fun e w' => ∃ v, e = .returned (.tuple #[.int .u64 (skp (lim n 1000 - 1) d : Int), v]) ∧ RdI w' v (smp d (lim n 1000) (lim k (lim n 1000))) ∧ Below w.heap.size w w' := by
  obtain ⟨i0, hi, hz0, hz1, hz2⟩ := info_parts info_i64
  obtain ⟨m, hm⟩ : ∃ m, lim n 1000 = m := ⟨_, rfl⟩
  have hm1 : m ≤ 1000 := by rw [← hm]; exact lim_n n
  obtain ⟨p, hp⟩ : ∃ p, lim k m = p := ⟨_, rfl⟩
  have hp1 : p ≤ m := by rw [← hp]; exact lim_le k m
  rw [hm, hp]
  have Hm := Lib.hid hm
  have Hp := Lib.hid hp
  have Hd := Lib.hid hd
  clear hm hd hp
  obtain ⟨T, hT⟩ : ∃ T, skp (m - 1) d = T := ⟨_, rfl⟩
  obtain ⟨l, hl⟩ : ∃ l, shuf d m = l := ⟨_, rfl⟩
  have Ho : Hid (l.length = m) := by rw [← hl]; exact shuf_len d m
  have HS : Hid (smp d m p = pick l m p) := by rw [← hl]; exact rfl
  rw [hT, HS.out]
  have HT := Lib.hid hT
  have HL := Lib.hid hl
  clear hT hl
  go_enter Try.func21, Try.ntmps21
  go_wp2_with (first
    | (go_at_call 18; refine (rshuffle_walk d n _ Hd.out).mono ?_; rw [Hm.out, HT.out, HL.out]; rintro e w1 ⟨g, rfl, hg, hU, hB⟩; have HG := Lib.hid hg; clear hg)
    | (go_at_call 28; refine (limited_walk k m _).mono ?_; rintro e w2 ⟨rfl, rfl⟩; rw [Hp.out]))
  have hglt := hU.lt
  go_loopw [10, 11] (fun v z wr => ∃ i : Nat, i ≤ m ∧ z = .int .i64 (i : Int) ∧ SmA m p l w w1 g v i wr) (fun _ z _ => m - (intOf z).toNat)
  case atStart => exact ⟨0, Nat.zero_le _, rfl, World.ownsRow_nil _ _ _ 1, hU, Below.refl _ _, hB⟩
  case round =>
    obtain ⟨i, hi1, rfl, hrow, hU, hB1, hB⟩ := hrel
    have hbs := hB1.size
    by_cases hlt : i < m
    · have hr := hU.rdp Ho.out hp1 (by omega)
      by_cases hin : i ∈ l.take p
      · have Hin := Lib.hid hin
        clear hin
        have hpl := pick_le l i p
        go_wp2_with (first
          | (go_at_call 30; refine (among_walk _ _ i _ hr (by have := Ho.out; rw [List.length_take]; omega)).mono ?_; rintro e w2 ⟨rfl, rfl⟩; rw [decide_eq_true Hin.out])
          | (at_builtin; refine wpList_append_i64 rfl (.tmp 33) (.tmp 35) 29 rfl w1.heap.size 3 i0 Try.underlying29 hi hz0 hz1 hz2 _ (pick l i p) rfl (hrow.alloc _) _ 0 1 1 [i] rfl rfl (lit_celI wr i _) (by omega) (by simp; omega) ?_; intro v' w' hrow' hg'))
        go_roundw
        case rel =>
          refine ⟨i + 1, by omega, by go_num, ?_, ?_, ?_, ?_⟩
          · rw [pick_in l i p Hin.out]; exact hrow'
          · exact hU.below (grown_2 hg' w1.heap.size wr (Below.refl _ _) hbs (fun b hb => (hrow.lt b hb).1)) hglt
          · exact grown_2 hg' w1.heap.size w1 hB1 hbs (fun b hb => (hrow.lt b hb).1)
          · exact grown_2 hg' w.heap.size w hB hB.size (fun b hb => Nat.le_trans (by have := hU.lt; have := HG.out; omega) (hrow.lt b hb).1)
        case measure => simp [intOf]; omega
      · have Hin := Lib.hid hin
        clear hin
        go_wp2_with (first
          | (go_at_call 30; refine (among_walk _ _ i _ hr (by have := Ho.out; rw [List.length_take]; omega)).mono ?_; rintro e w2 ⟨rfl, rfl⟩; rw [decide_eq_false Hin.out]))
        go_roundw
        case rel => exact ⟨i + 1, by omega, by go_num, by rw [pick_out l i p Hin.out]; exact hrow, hU, hB1, hB⟩
        case measure => simp [intOf]; omega
    · obtain rfl : i = m := by omega
      have hpl := pick_le l i p
      have hR := RdI.of_row hrow (by omega)
      go_wp2
      go_ret2
      exact ⟨_, rfl, hR, hB⟩
end Go.Proofs.Ythkgmjbjiiddhaa
