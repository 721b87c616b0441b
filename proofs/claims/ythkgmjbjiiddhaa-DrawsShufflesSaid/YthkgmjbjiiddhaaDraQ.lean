/-
  The walks of draws' functions that make lists: ascending, Shuffle, Sample. A list is in memory of the call's own, and nothing of what was there before has changed.
-/
import Derived.Test.YthkgmjbjiiddhaaDraP
import Derived.Test.YthkgmjbjiiddhaaShelf
import Derived.Sort.OwnSortedInts
namespace Go.Proofs.Ythkgmjbjiiddhaa
open Go.RowKit Dra
set_option linter.unusedVariables false

theorem info_i64 : (Try.prog.info? 3).map (fun i => (i.zero, i.size, i.bytes)) = some (some (.int .i64 0), 1, 8) := by kernel_rfl
/-- The numbers below k, then nought. -/
def upto (k n : Nat) : List Nat := (List.range n).map fun j => if j < k then j else 0
theorem upto_len (k n : Nat) : (upto k n).length = n := by simp [upto]
theorem upto_zero (n : Nat) : upto 0 n = List.replicate n 0 := by
  apply List.ext_getElem <;> simp [upto]
theorem upto_all (n : Nat) : upto n n = List.range n := by
  apply List.ext_getElem
  · simp [upto]
  · intro i h1 h2
    simp [upto] at h1 ⊢
    omega
theorem upto_set (k n : Nat) (h : k < n) : (upto k n).set k k = upto (k + 1) n := by
  apply List.ext_getElem
  · simp [upto]
  · intro i h1 h2
    simp [upto] at h1 h2 ⊢
    rw [List.getElem_set]
    by_cases h3 : k = i
    · subst h3; simp
    · simp [h3]
      by_cases h4 : i < k
      · rw [if_pos h4, if_pos (by omega)]
      · rw [if_neg h4, if_neg (by omega)]
set_option maxRecDepth 20000 in
set_option maxHeartbeats 1000000 in
theorem ascending_walk (n : Nat) (w : World) (hn : n ≤ 1000) :
    Calls Try.prog 26 #[.int .i64 (n : Int)] w fun e w' => ∃ g, e = .returned (.slice (some ⟨g, 0, none⟩) n n) ∧ w.heap.size ≤ g ∧ OwI 3 w' g (List.range n) ∧ Below w.heap.size w w' := by
  obtain ⟨i0, hi, hz0, hz1, hz2⟩ := info_parts info_i64
  go_enter Try.func26, Try.ntmps26
  go_wp2_with (at_make; refine wpList_make_i64 _ rfl (.tmp 5) (.tmp 5) 29 rfl 3 i0 Try.underlying29 hi hz0 hz1 (by omega) .i64 .i64 n n n rfl rfl rfl rfl (by omega) ?_; intro g w1 hg1 hown1 hb1 hs1; have Hg := Lib.hid hg1; clear hg1)
  have hU : OwI 3 w1 g (upto 0 n) := by rw [upto_zero]; exact hown1
  have hG : Hid (w.heap.size ≤ g) := by have := Hg.out; show _ ≤ _; omega
  go_loopw [9] (fun i wr => ∃ k : Nat, k ≤ n ∧ i = .int .i64 (k : Int) ∧ OwI 3 wr g (upto k n) ∧ Below w.heap.size w wr) (fun i _ => n - (intOf i).toNat)
  case atStart => exact ⟨0, Nat.zero_le _, rfl, hU, hb1⟩
  case round =>
    obtain ⟨k, hk, rfl, hU, hB⟩ := hrel
    by_cases hlt : k < n
    · have hcell := hU.cell k 0 (by simp [upto, hlt])
      have hfr := hU.frozen k
      go_wp2
      go_roundw
      case rel => exact ⟨k + 1, by omega, by go_num, by rw [← upto_set k n hlt]; exact hU.set_ k k, hB.setCell hG.out _⟩
      case measure => simp [intOf]; omega
    · obtain rfl : k = n := by omega
      go_wp2
      go_ret
      exact ⟨g, rfl, hG.out, by rw [← upto_all]; exact hU, hB⟩

/-- Between the rounds of Shuffle: what is left makes the order L and the state T. -/
def ShA (T : Nat) (L : List Nat) (n : Nat) (B : Nat) (w : World) (g : Nat) (x : Value) (Z : Int) (wr : World) : Prop :=
  ∃ (D : Nat) (l : List Nat), x = .int .u64 (D : Int) ∧ D < 18446744073709551616 ∧ OwI 3 wr g l ∧ l.length = n ∧ Z < n ∧ -1 ≤ Z ∧ shw Z.toNat D l = L ∧ skp Z.toNat D = T ∧ Below B w wr
theorem swp_eq (l : List Nat) (i j a b : Nat) (ha : l[i]? = some a) (hb : l[j]? = some b) : (l.set i b).set j a = swp l i j := by
  unfold swp
  rw [List.getD_eq_getElem?_getD, List.getD_eq_getElem?_getD, ha, hb]
  rfl
theorem ShA.step {T : Nat} {L : List Nat} {n B : Nat} {w wr : World} {g D : Nat} {Z : Int} {l : List Nat} {i j a b : Nat} (hU : OwI 3 wr g l) (hl : l.length = n) (hZ : Z < n) (hi : (i : Int) = Z) (h1 : 1 ≤ i) (hj : j = bel D (i + 1)) (ha : l[i]? = some a) (hb : l[j]? = some b)
    (hS : shw Z.toNat D l = L) (hT : skp Z.toNat D = T) (hB : Below B w wr) (hg : B ≤ g) :
    ShA T L n B w g (.int .u64 (nx D : Int)) (Z - 1) ((wr.setCell ⟨g, i, none⟩ (.int .i64 (b : Int))).setCell ⟨g, j, none⟩ (.int .i64 (a : Int))) := by
  obtain ⟨p, rfl⟩ : ∃ p, i = p + 1 := ⟨i - 1, by omega⟩
  have e : Z.toNat = p + 1 := by omega
  have e' : (Z - 1).toNat = p := by omega
  refine ⟨nx D, swp l (p + 1) j, rfl, nx_lt D, ?_, by rw [swp_len, hl], by omega, by omega, ?_, ?_, (hB.setCell hg _).setCell hg _⟩
  · rw [← swp_eq l (p + 1) j a b ha hb]
    exact (hU.set_ (p + 1) b).set_ j a
  · rw [← hS, e, e', shw_succ, hj]
  · rw [← hT, e, e', skp_succ]
theorem ShA.drew {T : Nat} {L : List Nat} {n B : Nat} {w wr : World} {g : Nat} {x : Value} {Z : Int} (h : ShA T L n B w g x Z wr) : ShA T L n B w g x Z wr.drew := by
  obtain ⟨D, l, h1, h2, h3, h4, h5, h6, h7, h8, h9⟩ := h
  exact ⟨D, l, h1, h2, h3.drew, h4, h5, h6, h7, h8, h9.drew⟩
theorem set_at (l : List Nat) (i j b : Nat) (hb : l[j]? = some b) : (l.set i b)[j]? = some b := by
  rw [List.getElem?_set]
  have hj := (List.getElem?_eq_some_iff.1 hb).1
  split
  · rename_i h; subst h; rw [if_pos hj]
  · exact hb
theorem lim_n (n : Int) : lim n 1000 ≤ 1000 := lim_le n 1000
set_option maxRecDepth 20000 in
set_option maxHeartbeats 1000000 in
theorem shuffle_walk (d : Nat) (n : Int) (w : World) (hd : d < 18446744073709551616) :
    Calls Try.prog 17 #[.int .u64 (d : Int), .int .i64 n] w fun e w' => ∃ g, e = .returned (.tuple #[.int .u64 (skp (lim n 1000 - 1) d : Int), .slice (some ⟨g, 0, none⟩) (lim n 1000) (lim n 1000)]) ∧ w.heap.size ≤ g ∧ OwI 3 w' g (shuf d (lim n 1000)) ∧ Below w.heap.size w w' := by
  obtain ⟨m, hm⟩ : ∃ m, lim n 1000 = m := ⟨_, rfl⟩
  have hm1 : m ≤ 1000 := by rw [← hm]; exact lim_n n
  rw [hm]
  have Hm := Lib.hid hm
  clear hm
  have Hd := Lib.hid hd
  clear hd
  obtain ⟨T, hT⟩ : ∃ T, skp (m - 1) d = T := ⟨_, rfl⟩
  obtain ⟨L, hL⟩ : ∃ L, shuf d m = L := ⟨_, rfl⟩
  rw [hT, hL]
  have HT := Lib.hid hT
  have HL := Lib.hid hL
  clear hT hL
  go_enter Try.func17, Try.ntmps17
  go_wp2_with (first
    | (go_at_call 27; refine (clamp_walk n 1000 _).mono ?_; rintro e w1 ⟨rfl, rfl⟩; rw [Hm.out])
    | (go_at_call 26; refine (ascending_walk m _ hm1).mono ?_; rintro e w1 ⟨g, rfl, hg, hU, hB⟩))
  have HG := Lib.hid hg
  clear hg
  go_loopw [0, 7] (fun x z wr => ∃ Z : Int, z = .int .i64 Z ∧ Z < m ∧ -1 ≤ Z ∧ ShA T L m w.heap.size w g x Z wr) (fun _ z _ => (intOf z).toNat)
  case atStart =>
    refine ⟨(m : Int) - 1, by go_num, by omega, by omega, d, List.range m, rfl, Hd.out, hU, by simp, by omega, by omega, ?_, ?_, hB⟩
    · rw [← HL.out, show ((m : Int) - 1).toNat = m - 1 by omega]; rfl
    · rw [← HT.out, show ((m : Int) - 1).toNat = m - 1 by omega]
  case round =>
    obtain ⟨Z, rfl, hZ1, hZ2, D, l, rfl, hD, hU, hl, _, _, hS, hT, hB⟩ := hrel
    by_cases h1 : 1 ≤ Z
    · obtain ⟨i, rfl⟩ : ∃ i : Nat, Z = (i : Int) := ⟨Z.toNat, by omega⟩
      have hji := bel_lt D (i + 1) (by omega)
      obtain ⟨j, hj⟩ : ∃ j, j = bel D (i + 1) := ⟨_, rfl⟩
      rw [← hj] at hji
      obtain ⟨a, ha⟩ : ∃ a, l[i]? = some a := ⟨_, List.getElem?_eq_getElem (by omega)⟩
      obtain ⟨b, hb⟩ : ∃ b, l[j]? = some b := ⟨_, List.getElem?_eq_getElem (by omega)⟩
      have HD := Lib.hid hD
      have Hl := Lib.hid hl
      have HS := Lib.hid hS
      have HTT := Lib.hid hT
      have Hj := Lib.hid hj
      have Ha := Lib.hid ha
      have Hb := Lib.hid hb
      clear hD hl hS hT hj ha hb
      go_wp2_with (go_at_call 14; refine (below_walk D _ _ HD.out).mono ?_; rintro e w2 ⟨rfl, bb⟩; rw [show ((i : Int) + 1).toNat = i + 1 by omega, ← Hj.out]; have hU := hU.below bb hU.lt; have hB := hB.trans (bb.mono hB.size); clear bb)
      have hca := hU.cell i a Ha.out
      have hcb := hU.cell j b Hb.out
      have hfa := hU.frozen i
      have hfb := hU.frozen j
      have hcj : (w2.setCell ⟨g, i, none⟩ (.int .i64 (b : Int))).drew.cell? ⟨g, j, none⟩ = some (.int .i64 (b : Int)) := ((hU.set_ i b).drew).cell j b (set_at l i j b Hb.out)
      have hfj : (w2.setCell ⟨g, i, none⟩ (.int .i64 (b : Int))).drew.frozen? ⟨g, j, none⟩ = false := ((hU.set_ i b).drew).frozen j
      go_region
      go_wp2
      go_roundw
      case rel => exact ⟨(i : Int) - 1, by go_num, by omega, by omega, (ShA.step hU Hl.out hZ1 rfl (by omega) Hj.out Ha.out Hb.out HS.out HTT.out hB HG.out).drew⟩
      case measure => simp [intOf]; omega
    · have e0 : Z.toNat = 0 := by omega
      rw [e0, shw_zero] at hS
      rw [e0, skp_zero] at hT
      subst hS hT
      clear hD
      go_wp2
      go_ret2
      exact ⟨g, rfl, HG.out, hU, hB⟩

/-- The library's Sort, called with the first p elements of a block that holds an order. -/
theorem sort_c {w : World} {g n p m : Nat} {l : List Nat} {e : TypeId} (hU : OwI e w g l) (hO : Ord l n) (hp : p ≤ n) (hm : n ≤ m) (hmm : m ≤ 1000000) :
    Calls Try.prog 29 #[.slice (some ⟨g, 0, none⟩) p m] w fun e w' => e = .returned (.tuple #[]) ∧ RdI w' (.slice (some ⟨g, 0, none⟩) p m) (pick l n p) ∧ ∀ B w0, B ≤ g → Below B w0 w → Below B w0 w' := by
  have hl : ((l.take p).map (fun x : Nat => (x : Int))).length = p := by rw [List.length_map, List.length_take, hO.1]; omega
  have hlt := hU.lt
  have hH : Go.Sort.Holds (Value.int .i64) w g 0 ((l.take p).map (fun x : Nat => (x : Int))).toArray := by
    refine holds_of_blockI (cur := (l.map Vi).toArray) hU ?_
    rw [hl, ← List.map_take, List.map_map]
    rfl
  have hc := Try.slices_Sort_int g 0 m ((l.take p).map (fun x : Nat => (x : Int))) w hH hlt (by omega)
  rw [hl, sort_pick hO] at hc
  refine hc.mono ?_
  rintro e' w' ⟨he, k, os, rfl⟩
  have hpl : (pick l n p).length = p := pick_len hO p hp
  have hps : ((pick l n p).map (fun x : Nat => (x : Int))).length = p := by rw [List.length_map, hpl]
  refine ⟨he, ⟨some ⟨g, 0, none⟩, m, by rw [hpl], by omega, by omega, fun _ => ⟨g, 0, rfl, fun j x hx => ?_⟩⟩, fun B w0 hB hb => hb.grown (grownBy_sortedI _) (by omega) (fun k' hk => by cases hk; exact hB)⟩
  have hb := heap_sortedI (n := k) (os := os) ((pick l n p).map (fun x : Nat => (x : Int))).toArray hU
  rw [Nat.zero_add, cell_of_row _ g j _ e (0, 0) hb]
  have ht := take_putCellsI (l.map Vi).toArray ((pick l n p).map (fun x : Nat => (x : Int))) (by rw [hps]; simp [hO.1]; exact hp)
  have hj : j < p := by rw [← hpl]; exact (List.getElem?_eq_some_iff.1 hx).1
  have h2 := congrArg (fun z : List Value => z[j]?) ht
  rw [List.getElem?_take_of_lt (by rw [hps]; exact hj), Array.getElem?_toList] at h2
  rw [h2, List.getElem?_map, List.getElem?_map, hx]
  rfl
theorem lim_of (n k : Nat) (h : k ≤ n) : lim (k : Int) n = k := by unfold lim; omega
set_option maxRecDepth 20000 in
set_option maxHeartbeats 1000000 in
theorem sample_walk (d : Nat) (n k : Int) (w : World) (hd : d < 18446744073709551616) :
    Calls Try.prog 20 #[.int .u64 (d : Int), .int .i64 n, .int .i64 k] w fun e w' => ∃ v, e = .returned (.tuple #[.int .u64 (skp (lim n 1000 - 1) d : Int), v]) ∧ RdI w' v (smp d (lim n 1000) (lim k (lim n 1000))) ∧ Below w.heap.size w w' := by
  obtain ⟨m, hm⟩ : ∃ m, lim n 1000 = m := ⟨_, rfl⟩
  have hm1 : m ≤ 1000 := by rw [← hm]; exact lim_n n
  obtain ⟨p, hp⟩ : ∃ p, lim k m = p := ⟨_, rfl⟩
  have hp1 : p ≤ m := by rw [← hp]; exact lim_le k m
  rw [hm, hp]
  have Hm := Lib.hid hm
  have Hp := Lib.hid hp
  have Hd := Lib.hid hd
  clear hm hd hp
  obtain ⟨T, hT⟩ : ∃ T, skp (m - 1) d = T := ⟨_, rfl⟩
  rw [hT]
  have HT := Lib.hid hT
  clear hT
  go_enter Try.func20, Try.ntmps20
  go_wp2_with (first
    | (go_at_call 17; refine (shuffle_walk d n _ Hd.out).mono ?_; rw [Hm.out, HT.out]; rintro e w1 ⟨g, rfl, hg, hU, hB⟩; have HG := Lib.hid hg; clear hg)
    | (go_at_call 27; refine (clamp_walk k m _).mono ?_; rintro e w2 ⟨rfl, rfl⟩; rw [Hp.out])
    | (go_at_call 29; refine (sort_c hU (shuf_ord d m) hp1 (Nat.le_refl _) (by omega)).mono ?_; rintro e w3 ⟨rfl, hR, hBB⟩; have hB := hBB _ _ HG.out hB; clear hBB))
  go_ret2
  exact ⟨_, rfl, hR, hB⟩
end Go.Proofs.Ythkgmjbjiiddhaa
