/-
  The walks of natural.groupsOfNine and Text.
-/
import Derived.Test.YthcoemkbdllcfaaDoorBuilder
import Derived.Test.YthcoemkbdllcfaaDoorTextNum
import Derived.Lib.AppendIntMem
import Derived.Lib.IndexBytes
namespace Go.Proofs.YthcoemkbdllcfaaDoor
open Go.RowKit

/-- The library's table of powers of ten holds what its initialiser lays. -/
def Tab (w : World) : Prop := Lib.TabIs Tryd.prog w "internal/strconv.uint64pow10" IntKind.u64 Lib.pow10Tab
theorem Tab.below {w w' : World} (h : Tab w) (hb : Below w.heap.size w w') : Tab w' := (Lib.tabBelow_of_tabIs h) w' hb

def ItoaEnd (n : Nat) (w : World) (e : Ending) (w' : World) : Prop := e = .returned (.string ⟨(Lib.decDigits n).toArray⟩) ∧ Below w.heap.size w w'
theorem itoa_walk (n : Nat) (w : World) (hn : n ≤ 9223372036854775807) (ht : Tab w) :
    Calls Tryd.prog 80 #[.int .i64 (n : Int)] w (ItoaEnd n w) := by
  refine (Tryd.strconv_Itoa (n : Int) (by omega) (by omega) w ht).mono ?_
  rintro e w' ⟨rfl, k, os, rfl⟩
  refine ⟨by rw [Lib.itoa_nonneg], rfl, rfl, rfl, ?_, fun i hi => ?_⟩
  · show w.heap.size ≤ (w.heap ++ os).size
    rw [Array.size_append]; omega
  · exact Sort.heap_grow_old (w.drewN k) os hi

/-- The groups of a number. -/
def GroupsEnd (m : Nat) (w : World) (e : Ending) (w' : World) : Prop :=
  ∃ v gs, e = .returned v ∧ Rd w' (fun _ => True) v gs ∧ Below w.heap.size w w' ∧ Txt.G9 gs ∧ Txt.v9 gs = m ∧ gs.getLast? ≠ some 0 ∧ gs.length ≤ 100000
/-- What the loop of groupsOfNine keeps. -/
def GrInv (m g n : Nat) (w : World) (gk : Nat) (x y : Value) (wr : World) : Prop :=
  ∃ j l gs, x = .slice (some ⟨g, 0, none⟩) j n ∧ Own 46 wr g l ∧ l.length = n ∧ j ≤ n ∧ Num.Lim l ∧ Num.Nrm (l.take j) ∧ Num.val (l.take j) = gk ∧
    Row wr (g + 1) y gs ∧ Txt.G9 gs ∧ Txt.v9 gs + 1000000000 ^ gs.length * gk = m ∧ (gk = 0 → gs.getLast? ≠ some 0) ∧ gs.length ≤ 2 * n ∧ Below w.heap.size w wr

theorem div9_walk (g n c : Nat) (l : List Nat) (w : World) (hown : Own 46 w g l) (hfit : n ≤ l.length) (hc : n ≤ 9223372036854775807) (hL : Num.Lim l) :
    Calls Tryd.prog 67 #[.slice (some ⟨g, 0, none⟩) n c, .int .u32 1000000000] w (LimbEnd 46 g n 1000000000 l w) := by
  have h := divideByLimb_walk g n c 1000000000 l w hown hfit hc hL (by omega) (by omega)
  exact h

theorem groups_bound {gs : List Nat} {m n gk V : Nat} (h : V + 1000000000 ^ gs.length * gk = m) (hgk : 0 < gk) (hm : m < Num.K ^ n) : gs.length < 2 * n := by
  have h1 : 1000000000 ^ gs.length ≤ 1000000000 ^ gs.length * gk := Nat.le_mul_of_pos_right _ hgk
  have h2 : Num.K ^ n ≤ (1000000000 ^ 2) ^ n := Nat.pow_le_pow_left (by rw [Num.K_eq]; omega) n
  rw [← Nat.pow_mul] at h2
  have h3 : 1000000000 ^ gs.length < 1000000000 ^ (2 * n) := by omega
  exact (Nat.pow_lt_pow_iff_right (by omega)).1 h3

set_option maxRecDepth 4000 in
set_option maxHeartbeats 2000000 in
theorem groups_walk (va : Value) (la : List Nat) (w : World) (ha : Rd w (fun _ => True) va la) (hla : la.length ≤ 10000) :
    Calls Tryd.prog 78 #[va] w (GroupsEnd (Num.val la) w) := by
  obtain ⟨i0, hi, hz0, hz1, hz2⟩ := info_parts info_u32
  obtain ⟨A, n, c, rfl, Hn, hnc, hc, HLa, hA⟩ := ha.open_
  have hn : n ≤ 10000 := by have := Hn.out; omega
  obtain ⟨m, hm⟩ : ∃ m, Num.val la = m := ⟨_, rfl⟩
  rw [hm]
  have Hm := Lib.hid hm
  have Hmb : Hid (m < Num.K ^ n) := by show _ < _; rw [← hm, ← Hn.out]; exact Num.val_lt la HLa.out
  clear ha hla hm
  go_enter Tryd.func78, Tryd.ntmps78
  go_wp2_with fail
  refine (norm_walk _ A n c la _ Hn.out hnc hc (by omega) hA).mono ?_
  rintro e w1 ⟨_, k, hk, rfl, ⟨g, rfl, hg, hown, hb1⟩, hz, hnr⟩
  have Lk : Hid ((la.take k).length = k) := by show _ = _; have := Hn.out; rw [List.length_take]; omega
  rw [Lk.out]
  have Hv := Lib.hid (hz.val (by have := Hn.out; omega))
  have HL1 : Hid (Num.Lim (la.take k)) := HLa.out.take k
  have Hnr := Lib.hid hnr
  clear hz hnr hA
  go_wp2
  go_loopg [3, 4] m (fun gk x y wr => GrInv m g k w gk x y wr)
  case atStart => exact ⟨k, la.take k, [], rfl, hown, Lk.out, Nat.le_refl _, HL1.out, by rw [List.take_of_length_le (by have := Lk.out; omega)]; exact Hnr.out, by rw [List.take_of_length_le (by have := Lk.out; omega), Hv.out]; exact Hm.out, Row.nil _ _, fun x h => by simp at h, by simp [Txt.v9], fun _ => by simp, by simp, hb1⟩
  case round =>
    obtain ⟨j, l, gs, rfl, hown', hl, hj, hL, hN, hgk, hrow, hG, hv9, hlast, hglen, hbl⟩ := hrel
    have Hl := Lib.hid hl
    have HL := Lib.hid hL
    have HN := Lib.hid hN
    have Hgk := Lib.hid hgk
    have HG := Lib.hid hG
    have Hv9 := Lib.hid hv9
    have Hlast := Lib.hid hlast
    clear hl hL hN hgk hG hv9 hlast hown
    by_cases h0 : 0 < j
    · have hgp : 0 < gk := by
        rcases Nat.eq_zero_or_pos gk with h | h
        · have h1 := HN.out.eq_nil (by rw [Hgk.out]; exact h)
          have h2 : (l.take j).length = 0 := by rw [h1]; rfl
          rw [List.length_take] at h2
          have := Hl.out
          omega
        · exact h
      have hkn : Num.K ^ k ≤ Num.K ^ n := Nat.pow_le_pow_right Num.K_pos hk
      have hglt : gs.length < 2 * k := by
        refine groups_bound Hv9.out hgp ?_
        have h1 := Num.val_lt _ HL1.out
        rw [Lk.out, Hv.out, Hm.out] at h1
        exact h1
      clear hkn
      go_wp2_with fail
      refine (div9_walk g j _ l wr hown' (by have := Hl.out; omega) (by omega) HL.out).mono ?_
      rintro e w2 ⟨rm, hrm, rfl, q, hq, hLq, hvq, ho2, hg2⟩
      have Hrm := Lib.hid hrm
      have Hq := Lib.hid hq
      have Hvq := Lib.hid hvq
      have hrow2 : Row w2 (g + 1) _ gs := World.ownsRow.kept hrow hg2 (by
        cases hob : Value.ownBlock _ with
        | none => exact .inl rfl
        | some b => refine .inr ?_; have := (hrow.lt b hob).1; intro e; injection e with e; omega)
      have hbl2 : Below w.heap.size w w2 := below_only hbl hg hg2
      have hg1 : g + 1 ≤ w2.heap.size := by have := ho2.lt; omega
      clear hrm hq hvq hrow hg2 hown'
      have hrow3 : w2.ownsRow (g + 1) 46 1 _ gs.length (gs.map Lv) := hrow2
      go_wp2_with (at_builtin; refine wpList_append_own _ rfl (.tmp 10) (.tmp 13) 22 rfl (g + 1) 46 i0 (.int .u32 0) 1 4 Tryd.underlying22 hi hz0 hz1 hz2 rfl (by decide) _ gs.length _ rfl (hrow3.alloc _) ⟨w2.heap.size, 0, none⟩ 1 1 [.int .u32 (rm : Int)] rfl rfl ?c1 ?c2 ?c3 ?c4 ?c5 ?_)
      case c1 =>
        intro j u hj
        match j, hj with
        | 0, hj => simp at hj; subst hj; simp [Addr.add]
      case c2 => intro u hu; simp at hu; subst hu; rfl
      case c3 => unfold maxLen; omega
      case c4 => omega
      case c5 => simp; omega
      intro v' w3 hown3 hgrow _
      have hgr3 : w2.grownBy w3 _ := only_trans (World.grownBy_alloc w2 _ _) hgrow
      have ho3 : Own 46 w3 g (mid l 0 q) := ho2.grown hgr3 (by
        intro e
        have := (hrow2.lt g e.symm).1
        omega)
      have hbl3 : Below w.heap.size w w3 := hbl2.grown hgr3 hbl2.size (fun b hb => by have := (hrow2.lt b hb).1; omega)
      have hmt : (mid l 0 q).take j = q := by
        have := take_mid l q 0 (by have := Hq.out; have := Hl.out; omega)
        rw [Nat.zero_add, Hq.out] at this
        simpa using this
      have Hmt := Lib.hid hmt
      clear hmt hrow2 hrow3 hgrow hgr3 ho2 hbl2
      go_wp2_with fail
      refine (trim_walk (fun _ => True) (some ⟨g, 0, none⟩) j k q w3 (by have := Hq.out; omega) hj (by omega) (by have := ho3.celTop.take j; rwa [Hmt.out] at this)).mono ?_
      rintro e w' ⟨⟨j', hj', rfl, hz', hnr'⟩, rfl⟩
      have Hz := Lib.hid (hz'.val (by have := Hq.out; omega))
      have Hnr' := Lib.hid hnr'
      clear hz' hnr'
      go_wp2
      go_roundg (gk / 1000000000)
      case measure => omega
      case rel =>
        have e1 : (mid l 0 q).take j' = q.take j' := by have := congrArg (List.take j') Hmt.out; rwa [List.take_take, Nat.min_eq_left hj'] at this
        have e2 : Num.val q = gk / 1000000000 := by rw [Hvq.out, Hgk.out]
        have e3 : rm = gk % 1000000000 := by rw [Hrm.out, Hgk.out]
        refine ⟨j', mid l 0 q, gs ++ [rm], rfl, ho3, by rw [mid_length l 0 q (by have := Hq.out; have := Hl.out; omega)]; exact Hl.out, by omega, mid_lim HL.out hLq, by rw [e1]; exact Hnr'.out, by rw [e1, Hz.out, e2], ?_, ?_, ?_, ?_, by simp; omega, hbl3⟩
        · unfold Row
          rw [List.length_append, List.map_append]
          exact hown3
        · intro x hx
          rcases List.mem_append.1 hx with h | h
          · exact HG.out x h
          · simp at h; rw [h, e3]; exact Nat.mod_lt _ (by omega)
        · have h1 := Hv9.out
          rw [Txt.v9_snoc, List.length_append, e3]
          show _ + 1000000000 ^ (gs.length + 1) * _ = _
          rw [Nat.pow_succ, Nat.mul_assoc, Nat.add_assoc, ← Nat.mul_add, show gk % 1000000000 + 1000000000 * (gk / 1000000000) = gk from by omega]
          exact h1
        · intro h
          rw [List.getLast?_append]
          simp
          omega
    · have hj0 : j = 0 := by omega
      have Hj0 := Lib.hid hj0
      clear hj0
      go_wp2
      go_ret
      have hg0 : gk = 0 := by have := Hgk.out; rw [Hj0.out] at this; simp [Num.val] at this; omega
      have h1 := Hv9.out
      rw [hg0, Nat.mul_zero, Nat.add_zero] at h1
      refine ⟨_, gs, rfl, (hrow.rd (fun x hx => by have := HG.out x hx; rw [Num.K_eq]; omega)).mono (fun _ _ => trivial), hbl, HG.out, h1, Hlast.out hg0, by omega⟩

theorem extract_tail (c : UInt8) (l : List UInt8) : ({ data := (c :: l).toArray } : ByteArray).extract 1 (l.length + 1) = ⟨l.toArray⟩ := by
  apply ByteArray.ext
  apply Array.toList_inj.1
  have h := Lib.extract_to_end ({ data := (c :: l).toArray } : ByteArray) 1
  have e : ({ data := (c :: l).toArray } : ByteArray).size = l.length + 1 := by simp [ByteArray.size]
  rw [e] at h
  rw [h]
  rfl
def TextEnd (m : Nat) (w : World) (e : Ending) (w' : World) : Prop := e = .returned (.string ⟨(Lib.decDigits m).toArray⟩) ∧ Below w.heap.size w w'
/-- What the loop of Text keeps: the builder b holds the digits of the groups from k on. -/
def TextInv (B b k : Nat) (gs : List Nat) (w wr : World) : Prop :=
  Lib.IsBuilder 80 5 B b (Lib.byteCells (Lib.decDigits (Txt.v9 (gs.drop k)))) wr ∧ Below B w wr ∧ (Lib.decDigits (Txt.v9 (gs.drop k))).length ≤ 9 * (gs.length - k)
theorem builder_keep {T e : TypeId} {B b : Nat} {bs : List Value} {w w' : World} (h : Lib.IsBuilder T e B b bs w) (hb : Below w.heap.size w w') : Lib.IsBuilder T e B b bs w' := by
  have go : ∀ p, Lib.BuilderAt T e B b p bs w → Lib.BuilderAt T e B b p bs w' := by
    rintro p ⟨hB, v, hh, hown, hne⟩
    have hlt : b < w.heap.size := by
      rcases Nat.lt_or_ge b w.heap.size with h' | h'
      · exact h'
      · simp [Array.getElem?_eq_none h'] at hh
    exact ⟨hB, v, (hb.block b hlt).trans hh, hown.kept (row := none) ⟨hb.os, hb.tape, hb.output, hb.size, fun k hk _ => hb.block k hk⟩ (by cases hv : v.ownBlock <;> simp), hne⟩
  rcases h with h | h
  · exact .inl (go _ h)
  · exact .inr (go _ h)

set_option maxRecDepth 4000 in
set_option maxHeartbeats 2000000 in
theorem text_walk (va : Value) (la : List Nat) (w : World) (ha : Rd w (fun _ => True) va la) (hla : la.length ≤ 10000) (ht : Tab w) :
    Calls Tryd.prog 60 #[va] w (TextEnd (Num.val la) w) := by
  obtain ⟨m, hm⟩ : ∃ m, Num.val la = m := ⟨_, rfl⟩
  rw [hm]
  have Hm := Lib.hid hm
  have HT := Lib.hid ht
  clear ht hm
  go_enter Tryd.func60, Tryd.ntmps60
  go_wp2_with fail
  refine (groups_walk va la w ha hla).mono ?_
  rintro e w1 ⟨v, gs, rfl, hrd, hb1, hG, hv9, hlast, hglen⟩
  obtain ⟨A, n, c, rfl, Hn, hnc, hc, HLg, hA⟩ := hrd.open_
  have HG := Lib.hid hG
  have Hv9 := Lib.hid hv9
  have Hlast := Lib.hid hlast
  have hnb : n ≤ 100000 := by have := Hn.out; omega
  have HT1 : Hid (Tab w1) := HT.out.below hb1
  clear hG hv9 hlast hglen ha hla
  by_cases h0 : n = 0
  · subst h0
    go_wp2
    go_ret
    have h1 := Hv9.out
    rw [List.eq_nil_of_length_eq_zero Hn.out] at h1
    have h2 : m = 0 := by rw [← Hm.out, ← h1]; rfl
    refine ⟨?_, hb1⟩
    rw [h2, Lib.decDigits_one (by omega)]
    rfl
  · have t0 : ((n : Int) == 0) = false := by simp; omega
    obtain ⟨j, rfl⟩ : ∃ j, n = j + 1 := ⟨n - 1, by omega⟩
    obtain ⟨g, off, rfl, _, hcs⟩ := hA (by have := Hn.out; omega)
    obtain ⟨x, hx⟩ : ∃ x, gs[j]? = some x := ⟨_, List.getElem?_eq_getElem (by have := Hn.out; omega)⟩
    have hcx := hcs _ _ hx
    have hx9 : x < 1000000000 := HG.out x (List.mem_of_getElem? hx)
    have Hx := Lib.hid hx
    have hcx2 : ∀ o, (w1.alloc o).cell? ⟨g, off + j, none⟩ = some (.int .u32 (x : Int)) := fun o => by
      rw [World.cell?_alloc_lt w1 o _ (World.block_lt_of_cell? w1 _ hcx)]
      exact hcx
    have hwa : Below w1.heap.size w1 (w1.alloc (Obj.cells #[Value.pointer none, Value.slice none 0 0] 80)) := (Below.refl _ _).alloc (Nat.le_refl _) _
    have hbu : Lib.IsBuilder 80 5 w1.heap.size w1.heap.size [] (w1.alloc (Obj.cells #[Value.pointer none, Value.slice none 0 0] 80)) := .inl ⟨Nat.le_refl _, _, heap_alloc_new w1 _, World.ownsRow_nil _ _ _ _, by simp [Value.ownBlock]⟩
    have Hcs := Lib.hid hcs
    clear h0 hx hcx hcs
    go_wp2_with fail
    refine (itoa_walk x _ (by omega) (HT1.out.below hwa)).mono ?_
    rintro e w2 ⟨rfl, hb2⟩
    have hlx := Txt.dec_length_le x 9 (by omega) (by omega)
    go_wp2_with fail
    refine (writeString_walk w1.heap.size w1.heap.size [] _ w2 (builder_keep hbu hb2) (by simp [ByteArray.size]; omega) (Nat.le_trans hwa.size hb2.size)).mono ?_
    rintro e w3 ⟨rfl, hbu3, hb3⟩
    have Hlx := Lib.hid hlx
    have hbl3 : Below w1.heap.size w1 w3 := (hwa.trans (hb2.mono hwa.size)).trans hb3
    have Hi : Hid (TextInv w1.heap.size w1.heap.size j gs w1 w3) := by
      refine ⟨.inr ?_, hbl3, ?_⟩
      · rw [Txt.text_last Hx.out (by have := Hn.out; omega)]
        exact hbu3
      · rw [Txt.text_last Hx.out (by have := Hn.out; omega)]
        have := Hn.out
        have := Hlx.out
        omega
    clear hbu hbu3 hlx hwa hb2 hb3 hcx2
    go_wp2
    go_loopw [6] (fun i wr => ∃ k : Nat, k ≤ j ∧ i = .int .i64 ((k : Int) - 1) ∧ TextInv w1.heap.size w1.heap.size k gs w1 wr) (fun i _ => (intOf i + 1).toNat)
    case atStart => exact ⟨j, Nat.le_refl _, rfl, Hi.out⟩
    case round =>
      clear hbl3 Hi
      obtain ⟨k, hk, rfl, hbu, hbl, hlen⟩ := hrel
      have Hlen := Lib.hid hlen
      clear hlen
      by_cases hk0 : k = 0
      · have hk1 : ¬ 0 ≤ (k : Int) - 1 := by omega
        have Hk := Lib.hid hk0
        clear hk0
        rw [Hk.out, List.drop_zero, Hv9.out, Hm.out] at hbu
        go_wp2_with fail
        refine (Tryd.Builder_String_any w1.heap.size w1.heap.size (Lib.decDigits m) wr hbu hbl.size).mono ?_
        rintro e w4 ⟨rfl, hb4⟩
        go_wp2
        go_ret
        exact ⟨rfl, hb1.trans ((hbl.trans hb4).mono hb1.size)⟩
      · obtain ⟨k, rfl⟩ : ∃ i, k = i + 1 := ⟨k - 1, by omega⟩
        have hk1 : 0 ≤ ((k + 1 : Nat) : Int) - 1 := by omega
        have hkt : (((k + 1 : Nat) : Int) - 1).toNat = k := by omega
        obtain ⟨y, hy⟩ : ∃ y, gs[k]? = some y := ⟨_, List.getElem?_eq_getElem (by have := Hn.out; omega)⟩
        have hy9 : y < 1000000000 := HG.out y (List.mem_of_getElem? hy)
        have hcy : wr.cell? ⟨g, off + k, none⟩ = some (.int .u32 (y : Int)) := by
          have h1 := Hcs.out _ _ hy
          rw [hbl.cell (World.block_lt_of_cell? w1 _ h1)]
          exact h1
        have Hy := Lib.hid hy
        clear hk0 hy
        go_wp2_with fail
        rw [show ((1000000000 : Int) + (y : Int)) = ((1000000000 + y : Nat) : Int) from by omega]
        refine (itoa_walk (1000000000 + y) wr (by omega) (HT1.out.below hbl)).mono ?_
        rintro e w4 ⟨rfl, hb4⟩
        rw [Txt.pad_nine y hy9]
        go_wp2_with fail
        rw [extract_tail 49 (Txt.pad 9 y)]
        have hpl := Txt.pad_length 9 y
        refine (writeString_walk w1.heap.size w1.heap.size _ ⟨(Txt.pad 9 y).toArray⟩ w4 (builder_keep hbu hb4) (by rw [Lib.byteCells_length]; simp [ByteArray.size, hpl]; have := Hlen.out; have := Hn.out; omega) (Nat.le_trans hbl.size hb4.size)).mono ?_
        rintro e w5 ⟨rfl, hbu5, hb5⟩
        have Hi5 : Hid (TextInv w1.heap.size w1.heap.size k gs w1 w5) := by
          have e1 := Txt.text_step Hy.out (by have := Hn.out; omega) HG.out Hlast.out
          refine ⟨.inr ?_, hbl.trans ((hb4.mono hbl.size).trans hb5), ?_⟩
          · rw [e1, Lib.byteCells_append]
            exact hbu5
          · rw [e1, List.length_append, hpl]
            have := Hlen.out
            have := Hn.out
            omega
        clear hbu5 hb5 hb4 hbu
        go_wp2
        go_roundw
        case rel => exact ⟨k, by omega, rfl, Hi5.out⟩
        case measure => simp [intOf] <;> omega
end Go.Proofs.YthcoemkbdllcfaaDoor
