/-
  The walks of codec.prefix, size, write and Encode.
-/
import Derived.Test.YtmklladpalcjpaaDoorCodC
import Derived.Test.YtmklladpalcjpaaDoorCodB
import Derived.Test.YtmklladpalcjpaaDoorShelf
import Derived.Lib.ItoaMem
namespace Go.Proofs.YtmklladpalcjpaaDoor
open Go.RowKit Cod
set_option linter.unusedVariables false

def ItoaEnd (n : Nat) (w : World) (e : Ending) (w' : World) : Prop := e = .returned (.string (ofL (Lib.decDigits n))) ∧ Below w.heap.size w w'
theorem itoa_walk (n : Nat) (w : World) (hn : n ≤ 9223372036854775807) (ht : Tab w) :
    Calls Tryd.prog 38 #[.int .i64 (n : Int)] w (ItoaEnd n w) := by
  refine (Tryd.strconv_Itoa (n : Int) (by omega) (by omega) w ht).mono ?_
  rintro e w' ⟨rfl, k, os, rfl⟩
  refine ⟨by rw [Lib.itoa_nonneg]; rfl, rfl, rfl, rfl, ?_, fun i hi => ?_⟩
  · show w.heap.size ≤ (w.heap ++ os).size
    rw [Array.size_append]; omega
  · exact Sort.heap_grow_old (w.drewN k) os hi
/-- What is in front of a text. -/
def PreEnd (t : List UInt8) (w : World) (e : Ending) (w' : World) : Prop :=
  ∃ p : ByteArray, e = .returned (.string p) ∧ Hid (p = ofL (Lib.decDigits t.length ++ [58])) ∧ p.size ≤ 30 ∧ Below w.heap.size w w'
theorem digits_short (n : Nat) (h : n ≤ 140737488351232) : (Lib.decDigits n).length ≤ 15 := dec_len n 15 (by omega) (by omega)
theorem data_app (s t : ByteArray) : (s ++ t).data.toList = s.data.toList ++ t.data.toList := by simp [ByteArray.data_append]
theorem ofL_app (a b : List UInt8) : ofL a ++ ofL b = ofL (a ++ b) := by
  have h : (ofL a ++ ofL b).data.toList = a ++ b := by rw [data_app, ofL_data, ofL_data]
  rw [← h, ofL_eq]
set_option maxRecDepth 20000 in
theorem prefix_walk (t : List UInt8) (w : World) (ht : t.length ≤ 140737488351232) (hT : Tab w) : Calls Tryd.prog 31 #[.string (ofL t)] w (PreEnd t w) := by
  have hlen := digits_short t.length ht
  obtain ⟨D, hD⟩ : ∃ D, D = ofL (Lib.decDigits t.length) := ⟨_, rfl⟩
  have hDs : D.size ≤ 15 := by rw [hD, ofL_size]; exact hlen
  have HW := Lib.hid (itoa_walk t.length w (by omega) hT)
  have hP : Hid (D ++ (⟨#[58]⟩ : ByteArray) = ofL (Lib.decDigits t.length ++ [58])) := by
    show _ = _
    rw [hD]
    exact ofL_app _ [58]
  have HD := Lib.hid hD
  have hts : (ofL t).size = t.length := ofL_size t
  clear hD hlen
  go_enter Tryd.func31, Tryd.ntmps31
  go_wp2_with (first | (go_at_call 38; (with_reducible refine HW.out.mono ?_); rintro e w1 ⟨rfl, bb⟩; rw [← HD.out]))
  go_ret
  exact ⟨_, rfl, hP, by rw [ByteArray.size_append]; have : (⟨#[58]⟩ : ByteArray).size = 1 := rfl; omega, bb⟩
set_option maxRecDepth 20000 in
set_option maxHeartbeats 2000000 in
theorem csize_walk : ∀ (x : Nd) (v : Value) (w : World), RdN w x v → size x ≤ 1000000 → Tab w → Calls Tryd.prog 24 #[v] w (IntAnd (wrN x).length w) := by
  intro x
  induction x using nd_ind with
  | h l t k ih =>
  intro v w hv hz hT
  obtain ⟨A, m, c, rfl, Hm, hmc, hc, ht, hk⟩ := hv.named
  have B0 := up_1 w (.cells #[.bool l, .string (ofL t), .slice A m c] 25)
  have ka := Bn.new w (.bool l) (.string (ofL t)) (.slice A m c) 25
  have hk := hk.below B0
  have HT := Lib.hid (hT.below B0)
  have ka0 := ka.1
  have ka1 := ka.2.1
  have ka2 := ka.2.2.1
  have Hk : Hid (k.length = m) := Hm
  rw [size] at hz
  clear hv hT
  cases l with
  | false =>
    have hR : Hid (∀ p : ByteArray, p = ofL (Lib.decDigits t.length ++ [58]) → ((wrN (.mk false t k)).length : Int) = (p.size : Int) + (t.length : Int)) := fun p hp => by
      rw [wrN_text, hp, ofL_size]
      simp
      omega
    have hts : (ofL t).size = t.length := ofL_size t
    have HD : Hid (Tab ((w.alloc (.cells #[.bool false, .string (ofL t), .slice A m c] 25)).drew)) := HT.out.below (Below.refl _ _).drew
    clear ih hz
    go_enter Tryd.func24, Tryd.ntmps24
    go_wp2_with fail
    go_region_held3 (fun W => W.cell? ⟨w.heap.size, 1, none⟩ = some (.string (ofL t))) (exact ka1)
      (first | (go_at_call 31; (with_reducible refine (prefix_walk t _ ht HD.out).mono ?_); rintro e w2 ⟨p, rfl, hp, hps, bb⟩; (first | have ka1 := (Bn.below (Bn.drew ka) bb).2.1 | fail "STEP 1"); (first | have B0 := B0.drew.trans (bb.mono B0.size) | fail "STEP 2")))
    go_wp2
    go_ret
    refine ⟨?_, B0⟩
    have hwr : IntKind.i64.wrap ((p.size : Int) + (t.length : Int)) = (p.size : Int) + (t.length : Int) := by rw [IntKind.wrap_i64]; omega
    rw [hR.out p hp.out]
    show Ending.returned (.int .i64 (IntKind.i64.wrap ((p.size : Int) + (t.length : Int)))) = _
    rw [hwr]
  | true =>
    have hA0 : Hid (2 = 2 + (wrL (k.take 0)).length) := by show _ = _; rw [List.take_zero, wrL]; rfl
    have hS : Hid ((wrL k).length ≤ 9000000) := by
      have := wrL_size k (by omega)
      show _ ≤ _
      omega
    have hz : Hid (sizeL k ≤ 1000000) := by show _ ≤ _; omega
    have hE : Hid ((wrN (.mk true t k)).length = 2 + (wrL k).length) := by
      show _ = _
      rw [wrN_list]
      simp
      omega
    go_enter Tryd.func24, Tryd.ntmps24
    go_wp2
    go_loopw [3, 20] (fun y z wr => ∃ i Z : Nat, i ≤ m ∧ z = .int .i64 (i : Int) ∧ y = .int .i64 (Z : Int) ∧ Z ≤ 9000002 ∧ Hid (Z = 2 + (wrL (k.take i)).length) ∧ RdS wr k (.slice A m c) ∧ Hid (Tab wr) ∧ Below w.heap.size w wr) (fun _ z _ => m - (intOf z).toNat)
    case atStart => exact ⟨0, 2, Nat.zero_le _, rfl, rfl, by omega, hA0, hk, HT, B0⟩
    case round =>
      clear hk B0 HT ka ka0 ka1 ka2 hA0
      obtain ⟨i, Z, hi, rfl, rfl, hZ, hA, hk, HT, B0⟩ := hrel
      by_cases hlt : i < m
      · obtain ⟨n, hn⟩ : ∃ n, k[i]? = some n := ⟨_, List.getElem?_eq_getElem (by have := Hk.out; omega)⟩
        obtain ⟨g, off, u0, u1, u2, rfl, c0, c1, c2, hM⟩ := hk.at hn
        have IH := Lib.hid (ih n (List.mem_of_getElem? hn))
        have Hzn : Hid (size n ≤ 1000000) := Nat.le_trans (sizeL_mem k i n hn) hz.out
        have hX := wrL_next k i n hn
        have hP := wrL_part k (i + 1)
        obtain ⟨q, hq⟩ : ∃ q, (wrN n).length = q := ⟨_, rfl⟩
        have hL : 2 + (wrL (k.take (i + 1))).length = Z + q := by
          rw [hX, List.length_append, hq, hA.out]
          omega
        have hqs : Z + q ≤ 9000002 := by
          have := hS.out
          omega
        have hst : Hid (Z + q = 2 + (wrL (k.take (i + 1))).length) := hL.symm
        rw [hq] at IH
        obtain ⟨ln, tn, kn⟩ := n
        obtain ⟨An, mn, cn, hag, -, -, -, -, -⟩ := hM.named
        simp only [Value.agg.injEq, Array.mk.injEq, List.cons.injEq, and_true] at hag
        obtain ⟨rfl, rfl, rfl⟩ := hag
        have hM := hM.below (up_1 _ (.cells #[.bool ln, .string (ofL tn), .slice An mn cn] 25))
        have qb := Bn.new wr (.bool ln) (.string (ofL tn)) (.slice An mn cn) 25
        have qb_0 := qb.1
        have qb_1 := qb.2.1
        have qb_2 := qb.2.2.1
        have hk := hk.below (up_1 wr (.cells #[.bool ln, .string (ofL tn), .slice An mn cn] 25))
        have HT := Lib.hid (HT.out.below (up_1 wr (.cells #[.bool ln, .string (ofL tn), .slice An mn cn] 25)))
        have B0 := B0.alloc B0.size (.cells #[.bool ln, .string (ofL tn), .slice An mn cn] 25)
        clear hn hq ih hX hP hL
        go_wp2_with (first | (go_at_call 24; (with_reducible refine (IH.out _ _ hM Hzn.out HT.out).mono ?_); rintro e w2 ⟨rfl, bb⟩; have hk := hk.below bb; have HT := Lib.hid (HT.out.below bb); have B0 := B0.trans (bb.mono B0.size); clear bb))
        go_roundw
        case rel => exact ⟨i + 1, Z + q, by omega, by go_num, by go_num, hqs, hst, hk, HT, B0⟩
        case measure => simp [intOf]; omega
      · have hD : Hid ((wrN (.mk true t k)).length = Z) := by
          have h := hA.out
          rw [List.take_of_length_le (by have := Hk.out; omega)] at h
          show _ = _
          rw [hE.out, h]
        go_wp2
        go_ret
        rw [hD.out]
        exact ⟨rfl, B0⟩
/-- A box of three cells, as a block. -/
def Nb (w : World) (g : Nat) (v0 v1 v2 : Value) : Prop := w.heap[g]? = some (.cells #[v0, v1, v2] 25 (0, 0))
theorem Nb.cells {w : World} {g : Nat} {v0 v1 v2 : Value} (h : Nb w g v0 v1 v2) : w.cell? ⟨g, 0, none⟩ = some v0 ∧ w.cell? ⟨g, 1, none⟩ = some v1 ∧ w.cell? ⟨g, 2, none⟩ = some v2 :=
  ⟨by rw [Lib.cell_of_heap h]; rfl, by rw [Lib.cell_of_heap h]; rfl, by rw [Lib.cell_of_heap h]; rfl⟩
theorem Nb.lt {w : World} {g : Nat} {v0 v1 v2 : Value} (h : Nb w g v0 v1 v2) : g < w.heap.size := (Array.getElem?_eq_some_iff.1 h).1
theorem Nb.new (w : World) (v0 v1 v2 : Value) : Nb (w.alloc (.cells #[v0, v1, v2] 25)) w.heap.size v0 v1 v2 := heap_alloc_new w _
theorem Nb.below {w w' : World} {g : Nat} {v0 v1 v2 : Value} (h : Nb w g v0 v1 v2) (hb : Below w.heap.size w w') : Nb w' g v0 v1 v2 := (hb.block g h.lt).trans h
theorem Nb.oth {w w' : World} {g b : Nat} {v0 v1 v2 : Value} (h : Nb w g v0 v1 v2) (ho : Oth b w w') (hg : g ≠ b) : Nb w' g v0 v1 v2 :=
  ho g _ h (fun e => hg (Option.some.inj e)) (fun c fz e => by cases e)
theorem builder_keep {T e : TypeId} {B b : Nat} {bs : List Value} {w w' : World} (h : Lib.IsBuilder T e B b bs w) (hb : Below w.heap.size w w') : Lib.IsBuilder T e B b bs w' := by
  have go : ∀ p, Lib.BuilderAt T e B b p bs w → Lib.BuilderAt T e B b p bs w' := by
    rintro p ⟨hB, v, hh, hown, hne⟩
    have hlt : b < w.heap.size := by
      rcases Nat.lt_or_ge b w.heap.size with h' | h'
      · exact h'
      · simp [Array.getElem?_eq_none h'] at hh
    exact ⟨hB, v, (hb.block b hlt).trans hh, hown.kept (row := none) ⟨hb.os, hb.tape, hb.output, hb.size, fun k hk _ => hb.block k hk⟩ (by cases hv : v.ownBlock <;> simp), hne⟩
  rcases h with h | h
  · exact .inl (go _ h)
  · exact .inr (go _ h)
theorem builder_lt {T e : TypeId} {B b : Nat} {bs : List Value} {w : World} (h : Lib.IsBuilder T e B b bs w) : b < w.heap.size := by
  rcases h with h | h
  · exact h.lt
  · exact h.lt
abbrev Bld (B b : Nat) (L : List UInt8) (w : World) : Prop := Lib.IsBuilder 52 5 B b (Lib.byteCells L) w
/-- What write leaves. -/
def WrEnd (B b : Nat) (L : List UInt8) (w : World) (e : Ending) (w' : World) : Prop := e = .returned (.tuple #[]) ∧ Bld B b L w' ∧ Below B w w'
theorem RdMS.bw {B : Nat} {w w' : World} {k : List Nd} {v : Value} (h : RdMS (fun g => g < B) w k v) (hb : Bw B w w') : RdMS (fun g => g < B) w' k v := h.keep (fun _ h => h) (fun g o u hg hu => (hb.1.cell (p := ⟨g, o, none⟩) hg).trans hu)
theorem Bw.from {B : Nat} {w w' : World} (h : Below B w w') (hs : B ≤ w.heap.size) : Bw B w w' := ⟨h, Nat.le_trans hs h.size⟩
theorem wr_len (a b : List UInt8) : (Lib.byteCells (a ++ b)).length = a.length + b.length := by rw [Lib.byteCells_length, List.length_append]
set_option maxRecDepth 20000 in
set_option maxHeartbeats 2000000 in
theorem write_text (t : List UInt8) (k : List Nd) (B b : Nat) (W0 : World) (hW0 : B = W0.heap.size) (hT : Tab W0) (L : List UInt8) (v : Value) (w : World) (hv : RdM (fun g => g < B) w (.mk false t k) v) (hb : Bld B b L w) (hw : Bw B W0 w) (hl : L.length + (wrN (.mk false t k)).length ≤ 100000) :
    Calls Tryd.prog 25 #[.pointer (some ⟨b, 0, none⟩), v] w (WrEnd B b (L ++ wrN (.mk false t k)) w) := by
  obtain ⟨A, m, c, rfl, Hm, hmc, hc, ht, hk⟩ := hv.named
  rw [wrN_text] at hl ⊢
  obtain ⟨P, hP⟩ : ∃ P, Lib.decDigits t.length ++ [58] = P := ⟨_, rfl⟩
  rw [show Lib.decDigits t.length ++ 58 :: t = P ++ t by rw [← hP, List.append_assoc]; rfl, List.length_append] at hl
  rw [show Lib.decDigits t.length ++ 58 :: t = P ++ t by rw [← hP, List.append_assoc]; rfl]
  have hne : w.heap.size ≠ b := fun e => by have := builder_lt hb; omega
  have ka := Nb.new w (.bool false) (.string (ofL t)) (.slice A m c)
  have B0 := up_1 w (.cells #[.bool false, .string (ofL t), .slice A m c] 25)
  have hb := builder_keep hb B0
  have hsz := Nat.le_trans hw.2 B0.size
  have HT := Lib.hid ((hT.below (hW0 ▸ hw.1)).below B0)
  have B1 := B0.mono hw.2
  have HP := Lib.hid hP
  obtain ⟨ka0, ka1, ka2⟩ := ka.cells
  clear hv hk hT hw hP
  go_enter Tryd.func25, Tryd.ntmps25
  go_wp2_with fail
  refine (prefix_walk t _ ht HT.out).mono ?_
  rintro e w1 ⟨p, rfl, hp, hps, bb⟩
  have hpp := hp.out
  rw [HP.out] at hpp
  have hpz : p.size = P.length := by rw [hpp, ofL_size]
  have Hpp := Lib.hid hpp
  have hb := builder_keep hb bb
  have ka := ka.below bb
  have B1 := B1.trans (bb.mono hsz)
  have hsz := Nat.le_trans hsz bb.size
  clear hpp bb ka0 ka1 ka2 B0
  go_wp2_with fail
  refine (writeString_walk B b _ p _ hb (by rw [Lib.byteCells_length]; omega) hsz).mono ?_
  rintro e w2 ⟨rfl, hb, bb, ho⟩
  have ka := ka.oth ho hne
  have B1 := B1.trans bb
  have hsz := Nat.le_trans hsz bb.size
  obtain ⟨ka0, ka1, ka2⟩ := ka.cells
  have hb : Bld B b (L ++ P) w2 := by
    refine .inr ?_
    rw [Lib.byteCells_append]
    have h := hb
    rw [Hpp.out] at h
    exact h
  clear bb ho
  go_wp2_with fail
  refine (writeString_walk B b _ (ofL t) _ hb (by rw [wr_len, ofL_size]; omega) hsz).mono ?_
  rintro e w3 ⟨rfl, hb, bb, ho⟩
  have B1 := B1.trans bb
  have hb : Bld B b (L ++ (P ++ t)) w3 := by
    refine .inr ?_
    rw [← List.append_assoc, Lib.byteCells_append]
    exact hb
  clear bb ho
  go_wp2
  first | go_end0 | refine bodyPost_ret (results_none rfl _ _ _) rfl ?_
  exact ⟨rfl, hb, B1⟩
set_option maxRecDepth 20000 in
set_option maxHeartbeats 2000000 in
theorem write_walk (B b : Nat) (W0 : World) (hW0 : B = W0.heap.size) (hT : Tab W0) : ∀ (x : Nd) (L : List UInt8) (v : Value) (w : World), RdM (fun g => g < B) w x v → Bld B b L w → Bw B W0 w → L.length + (wrN x).length ≤ 100000 →
    Calls Tryd.prog 25 #[.pointer (some ⟨b, 0, none⟩), v] w (WrEnd B b (L ++ wrN x) w) := by
  intro x
  induction x using nd_ind with
  | h l t k ih =>
  intro L v w hv hb hw hl
  cases l with
  | false => exact write_text t k B b W0 hW0 hT L v w hv hb hw hl
  | true =>
    obtain ⟨A, m, c, rfl, Hm, hmc, hc, ht, hk⟩ := hv.named
    rw [wrN_list] at hl ⊢
    simp only [List.length_cons, List.length_append, List.length_nil] at hl
    have ka := Bn.new w (.bool true) (.string (ofL t)) (.slice A m c) 25
    have B0 := up_1 w (.cells #[.bool true, .string (ofL t), .slice A m c] 25)
    have hne : w.heap.size ≠ b := fun e => by have := builder_lt hb; omega
    have hb := builder_keep hb B0
    have hk := hk.below B0
    have hw1 := hw.up B0
    have B1 := B0.mono hw.2
    have hsz := hw1.2
    have kn := Nb.new w (.bool true) (.string (ofL t)) (.slice A m c)
    have ka0 := ka.1
    have ka1 := ka.2.1
    have ka2 := ka.2.2.1
    have Hk : Hid (k.length = m) := Hm
    clear hv ka
    go_enter Tryd.func25, Tryd.ntmps25
    go_wp2_with fail
    refine (writeByte_walk B b _ 40 _ hb (by rw [Lib.byteCells_length]; omega) hsz).mono ?_
    rintro e w1 ⟨rfl, hb, bb, ho⟩
    have hk := hk.bw (Bw.from bb hsz)
    have B1 := B1.trans bb
    have hw1 : Bw B W0 w1 := ⟨hw1.1.trans bb, Nat.le_trans hsz bb.size⟩
    have hb : Bld B b (L ++ 40 :: wrL (k.take 0)) w1 := by
      refine .inr ?_
      rw [Lib.byteCells_append, List.take_zero, wrL]
      exact hb
    clear ka0 ka1 ka2
    obtain ⟨ka0, ka1, ka2⟩ := (kn.oth ho hne).cells
    clear bb hsz B0 hw ho kn
    go_wp2
    go_loopw [23] (fun y wr => ∃ i : Nat, i ≤ m ∧ y = .int .i64 (i : Int) ∧ Bld B b (L ++ 40 :: wrL (k.take i)) wr ∧ RdMS (fun g => g < B) wr k (.slice A m c) ∧ Bw B W0 wr ∧ Below B w wr) (fun y _ => m - (intOf y).toNat)
    case atStart => exact ⟨0, Nat.zero_le _, rfl, hb, hk, hw1, B1⟩
    case round =>
      clear hk B1 hb hw1 ka0 ka1 ka2
      obtain ⟨i, hi, rfl, hbl, hkl, hwl, BL⟩ := hrel
      by_cases hlt : i < m
      · obtain ⟨n, hn⟩ : ∃ n, k[i]? = some n := ⟨_, List.getElem?_eq_getElem (by have := Hk.out; omega)⟩
        obtain ⟨g, off, u0, u1, u2, rfl, c0, c1, c2, hM⟩ := hkl.at hn
        have IH := Lib.hid (ih n (List.mem_of_getElem? hn))
        have hX := wrL_next k i n hn
        have hP := wrL_part k (i + 1)
        have hE : Hid (L ++ 40 :: wrL (k.take (i + 1)) = (L ++ 40 :: wrL (k.take i)) ++ wrN n) := by
          show _ = _
          rw [hX, List.append_assoc]
          rfl
        rw [hX, List.length_append] at hP
        have hlen : Hid ((L ++ 40 :: wrL (k.take i)).length + (wrN n).length ≤ 100000) := by
          show _ ≤ _
          rw [List.length_append, List.length_cons]
          omega
        obtain ⟨ln, tn, kn⟩ := n
        obtain ⟨An, mn, cn, hag, -, -, -, -, -⟩ := hM.named
        simp only [Value.agg.injEq, Array.mk.injEq, List.cons.injEq, and_true] at hag
        obtain ⟨rfl, rfl, rfl⟩ := hag
        have U := up_1 wr (.cells #[.bool ln, .string (ofL tn), .slice An mn cn] 25)
        have hM := hM.below U
        have qb := Bn.new wr (.bool ln) (.string (ofL tn)) (.slice An mn cn) 25
        have qb_0 := qb.1
        have qb_1 := qb.2.1
        have qb_2 := qb.2.2.1
        have hkl := hkl.below U
        have hbl := builder_keep hbl U
        have BL := BL.trans (U.mono hwl.2)
        have hwl := hwl.up U
        clear hn hX hP ih U
        go_wp2_with (first | (go_at_call 25; (with_reducible refine (IH.out _ _ _ hM hbl hwl hlen.out).mono ?_); rintro e w2 ⟨rfl, hbl, bb⟩; rw [← hE.out] at hbl; have hkl := hkl.bw (Bw.from bb hwl.2); have BL := BL.trans bb; have hwl : Bw B W0 w2 := ⟨hwl.1.trans bb, Nat.le_trans hwl.2 bb.size⟩; clear bb))
        go_roundw
        case rel => exact ⟨i + 1, by omega, by go_num, hbl, hkl, hwl, BL⟩
        case measure => simp [intOf]; omega
      · rw [List.take_of_length_le (by have := Hk.out; omega)] at hbl
        go_wp2_with fail
        refine (writeByte_walk B b _ 41 _ hbl (by rw [wr_len, List.length_cons]; omega) hwl.2).mono ?_
        rintro e w3 ⟨rfl, hbl, bb, ho⟩
        have BL := BL.trans bb
        have hbl : Bld B b (L ++ 40 :: (wrL k ++ [41])) w3 := by
          refine .inr ?_
          rw [show L ++ 40 :: (wrL k ++ [41]) = (L ++ 40 :: wrL k) ++ [41] by simp, Lib.byteCells_append]
          exact hbl
        clear bb ho
        go_wp2
        first | go_end0 | refine bodyPost_ret (results_none rfl _ _ _) rfl ?_
        exact ⟨rfl, hbl, BL⟩
theorem encd_zero (x : Nd) : errOf (enc 12 x) = 0 ∨ ∃ q, errOf (enc 12 x) = q ∧ ¬ q = 0 := by
  by_cases h : errOf (enc 12 x) = 0
  · exact .inl h
  · exact .inr ⟨_, rfl, h⟩
set_option maxRecDepth 20000 in
set_option maxHeartbeats 2000000 in
/-- Encode. -/
theorem encode_c {w : World} {n : Nd} {v : Value} (h : RdN w n v) (hz : size n ≤ 21000) (ht : Tab w) : Calls Tryd.prog 15 #[v] w (EncEnd (encd n) w) := by
  obtain ⟨l, t, k⟩ := n
  obtain ⟨A, m, c, rfl, -, -, -, -, -⟩ := h.named
  have B0 := up_1 w (.cells #[.bool l, .string (ofL t), .slice A m c] 25)
  have ka := Bn.new w (.bool l) (.string (ofL t)) (.slice A m c) 25
  have hx := h.below B0
  have HT := Lib.hid (ht.below B0)
  have ka0 := ka.1
  have ka1 := ka.2.1
  have ka2 := ka.2.2.1
  have HZ := Lib.hid hz
  have HC := Lib.hid (fun v w h => check_walk (.mk l t k) 12 1 v w h (by omega) (by omega))
  have HS := Lib.hid (fun v w h hT => csize_walk (.mk l t k) v w h (by omega) hT)
  clear h ht hz
  rcases encd_zero (.mk l t k) with h0 | ⟨q, hq, hq0⟩
  · obtain ⟨s, hs⟩ : ∃ s, (wrN (.mk l t k)).length = s := ⟨_, rfl⟩
    rw [h0] at HC
    by_cases hbig : 20000 < s
    · have hR := Lib.hid (encd_long h0 (by rw [hs]; exact hbig))
      rw [hs] at HS
      clear h0 hs
      go_enter Tryd.func15, Tryd.ntmps15
      go_wp2_with (first | (go_at_call 23; (with_reducible refine (HC.out _ _ hx).mono ?_); rintro e w1 ⟨rfl, bb⟩; have hx := hx.below bb; have HT := Lib.hid (HT.out.below bb); have ka := ka.below bb; have B0 := B0.trans (bb.mono B0.size); have ka0 := ka.1; have ka1 := ka.2.1; have ka2 := ka.2.2.1; clear bb) | (go_at_call 24; (with_reducible refine (HS.out _ _ hx HT.out).mono ?_); rintro e w2 ⟨rfl, bb⟩; have B0 := B0.trans (bb.mono B0.size); clear bb))
      first | go_ret2 | go_ret
      rw [hR.out]
      exact ⟨_, 5, rfl, B0, rfl, rfl⟩
    · have hR := Lib.hid (encd_yes h0 (by rw [hs]; exact hbig))
      have Hs := Lib.hid hs
      rw [hs] at HS
      clear h0 hs
      go_enter Tryd.func15, Tryd.ntmps15
      go_wp2_with (first | (go_at_call 23; (with_reducible refine (HC.out _ _ hx).mono ?_); rintro e w1 ⟨rfl, bb⟩; have hx := hx.below bb; have HT := Lib.hid (HT.out.below bb); have ka := ka.below bb; have B0 := B0.trans (bb.mono B0.size); have ka0 := ka.1; have ka1 := ka.2.1; have ka2 := ka.2.2.1; clear bb) | (go_at_call 24; (with_reducible refine (HS.out _ _ hx HT.out).mono ?_); rintro e w2 ⟨rfl, bb⟩; have hx := hx.below bb; have HT := Lib.hid (HT.out.below bb); have ka := ka.below bb; have B0 := B0.trans (bb.mono B0.size); have kb := ka.up (Obj.cells #[Value.pointer none, Value.slice none 0 0] 52); have ka0 := kb.1; have ka1 := kb.2.1; have ka2 := kb.2.2.1; clear bb))
      have hM : RdM (fun g => g < w2.heap.size) w2 (.mk l t k) (.agg #[.bool l, .string (ofL t), .slice A m c]) := (rdM_in _ _ hx).mono (fun g hg => hg.2)
      have U := up_1 w2 (Obj.cells #[Value.pointer none, Value.slice none 0 0] 52)
      have hbu : Bld w2.heap.size w2.heap.size [] (w2.alloc (Obj.cells #[Value.pointer none, Value.slice none 0 0] 52)) := Lib.fresh_isBuilder _ _ _
      refine (write_walk w2.heap.size w2.heap.size w2 rfl HT.out (.mk l t k) [] _ _ (hM.below U) hbu ⟨U, U.size⟩ (by rw [Hs.out]; simp; omega)).mono ?_
      rintro e w3 ⟨rfl, hb, bb⟩
      have h20 : w.heap.size ≤ w2.heap.size := B0.size
      have B0 := B0.trans ((U.trans bb).mono B0.size)
      have hsz := Nat.le_trans U.size bb.size
      rw [List.nil_append] at hb
      clear hM U hbu bb ka kb ka0 ka1 ka2 hx
      go_wp2_with fail
      refine (Tryd.Builder_String_any w2.heap.size w2.heap.size _ w3 hb hsz).mono ?_
      rintro e w4 ⟨rfl, bb⟩
      go_wp2
      first | go_ret2 | go_ret
      rw [hR.out]
      refine ⟨_, 0, rfl, ?_, rfl, rfl⟩
      exact B0.trans (bb.mono h20)
  · have hR := Lib.hid (encd_err (n := .mk l t k) (by rw [hq]; exact hq0))
    rw [hq] at hR HC
    have hqb : ((q : Int) != 0) = true := by simp; omega
    clear hq hq0
    go_enter Tryd.func15, Tryd.ntmps15
    go_wp2_with (first | (go_at_call 23; (with_reducible refine (HC.out _ _ hx).mono ?_); rintro e w1 ⟨rfl, bb⟩; have B0 := B0.trans (bb.mono B0.size); clear bb))
    first | go_ret2 | go_ret
    rw [hR.out]
    exact ⟨_, q, rfl, B0, rfl, rfl⟩
end Go.Proofs.YtmklladpalcjpaaDoor
