/-
  The walk of the landed Links.
-/
import Derived.Test.YtlinmhmhgnhmeaaDigU
import Derived.Test.YtlinmhmhgnhmeaaRowG
namespace Go.Proofs.Ytlinmhmhgnhmeaa
open Go.RowKit Dig
set_option linter.unusedVariables false
/-- The chain's digests up to i, then nought. -/
def lkz (L : List (List UInt8)) (i : Nat) : List Nat := lk 0 (L.take i) ++ List.replicate (L.length - i) 0
theorem lkz_zero (L : List (List UInt8)) : lkz L 0 = List.replicate L.length 0 := by unfold lkz; rw [List.take_zero]; rfl
theorem lkz_all (L : List (List UInt8)) (i : Nat) (h : L.length ≤ i) : lkz L i = lk 0 L := by unfold lkz; rw [List.take_of_length_le h, Nat.sub_eq_zero_of_le h, List.replicate_zero, List.append_nil]
theorem lkz_set (L : List (List UInt8)) (i : Nat) (s : List UInt8) (h : L[i]? = some s) : (lkz L i).set i (lastOf 0 (L.take (i + 1))) = lkz L (i + 1) := by
  have hlt := (List.getElem?_eq_some_iff.1 h).1
  have hlen : (lk 0 (L.take i)).length = i := by rw [lk_length, List.length_take]; omega
  unfold lkz
  rw [lk_next L i s h, List.set_append_right _ _ (by omega), hlen, Nat.sub_self]
  obtain ⟨k, hk⟩ : ∃ k, L.length - i = k + 1 := ⟨L.length - i - 1, by omega⟩
  rw [hk, show L.length - (i + 1) = k by omega, List.replicate_succ, List.set_cons_zero, List.append_assoc]
  rfl
theorem lkz_at (L : List (List UInt8)) (i : Nat) (h : i < L.length) : ∃ z, (lkz L i)[i]? = some z := by
  have hlt : i < (lkz L i).length := by unfold lkz; rw [List.length_append, lk_length, List.length_take, List.length_replicate]; omega
  exact ⟨_, List.getElem?_eq_getElem hlt⟩
theorem RdU.of_own {w : World} {g : Nat} {l : List Nat} {e : TypeId} (h : OwV Uv e w g l) (hm : l.length ≤ 9223372036854775807) : RdU w l (.slice (some ⟨g, 0, none⟩) l.length l.length) :=
  ⟨_, _, rfl, Nat.le_refl _, hm, fun _ => ⟨g, 0, rfl, fun j z hz => by rw [Nat.zero_add]; exact h.cell j z hz⟩⟩
set_option maxRecDepth 20000 in
set_option maxHeartbeats 1000000 in
theorem links_c (L : List (List UInt8)) (v : Value) (w : World) (ht : Dt w) (h : RdT w L v) (hm : L.length ≤ 1000) (hs : ∀ s ∈ L, s.length ≤ 100000) : Calls Try.prog 19 #[v] w (LnkEnd (lk 0 L) w) := by
  obtain ⟨i0, hi, hz0, hz1, hz2⟩ := info_parts info_u64
  obtain ⟨A, m, c, rfl, Hm, hmc, hc⟩ := h.named
  have hm' : m ≤ 1000 := by have := Hm.out; omega
  have HS := Lib.hid hs
  clear hs hm
  go_enter Try.func19, Try.ntmps19
  go_wp2_with (at_make; refine wpList_make_v Uv 0 _ rfl (.tmp 8) (.tmp 8) 32 rfl 22 i0 (.int .u64 0) Try.underlying32 hi hz0 hz1 (by omega) rfl rfl .i64 .i64 m m m rfl rfl rfl rfl (by omega) ?_; intro g w1 hg1 hown1 B0 hs1; have Hg := Lib.hid hg1; clear hg1)
  have hU : OwV Uv 22 w1 g (lkz L 0) := by rw [lkz_zero, Hm.out]; exact hown1
  have hG : Hid (w.heap.size ≤ g) := by have := Hg.out; show _ ≤ _; omega
  clear hown1
  go_loopw [4, 12] (fun y z wr => ∃ i d : Nat, i ≤ m ∧ z = .int .i64 (i : Int) ∧ y = .int .u64 (d : Int) ∧ d < 2305843009213693951 ∧ Hid (d = lastOf 0 (L.take i)) ∧ OwV Uv 22 wr g (lkz L i) ∧ Below w.heap.size w wr) (fun _ z _ => m - (intOf z).toNat)
  case atStart => exact ⟨0, 0, Nat.zero_le _, rfl, rfl, by omega, Lib.hid rfl, hU, B0⟩
  case round =>
    clear B0 hU hs1
    obtain ⟨i, d, hile, rfl, rfl, hd, hD, hU, B0⟩ := hrel
    have hT := h.below B0
    by_cases hlt : i < m
    · obtain ⟨s, hs⟩ : ∃ s, L[i]? = some s := ⟨_, List.getElem?_eq_getElem (by have := Hm.out; omega)⟩
      obtain ⟨g2, off, rfl, hcell, hsl⟩ := hT.at hs
      have hsb : (ofL s).size ≤ 900000 := by have := HS.out s (List.mem_of_getElem? hs); rw [ofL_size]; omega
      obtain ⟨D, hDD⟩ : ∃ D, ch d s = D := ⟨_, rfl⟩
      have hN : Hid (D = lastOf 0 (L.take (i + 1))) := by
        show _ = _
        rw [lastOf_next L 0 i s hs, ← hD.out, hDD]
      have hK : Hid ((lkz L i).set i D = lkz L (i + 1)) := by
        show _ = _
        rw [hN.out]
        exact lkz_set L i s hs
      have HC := Lib.hid (fun hd => chain_c d (ofL s) wr True.intro hd hsb)
      rw [ofL_data, hDD] at HC
      have hd64 := lt64 hd
      have hDP : D < 2305843009213693951 := by rw [← hDD, ← P_eq]; exact ch_lt _ _
      obtain ⟨z, hz⟩ := lkz_at L i (by have := Hm.out; omega)
      clear hs hDD
      go_wp2_with (first
        | (go_at_call 16; (with_reducible refine (HC.out hd64).mono ?_); rintro e w2 ⟨rfl, bb⟩; have hU := hU.below bb hU.lt; have B0 := B0.trans (bb.mono B0.size); have hc2 := hU.cell i z hz; have hfr := hU.frozen i; clear bb))
      go_roundw
      case rel => exact ⟨i + 1, D, by omega, by go_num, rfl, hDP, hN, by rw [← hK.out]; exact hU.set_ i D _ rfl, B0.setCell hG.out _⟩
      case measure => simp [intOf]; omega
    · obtain rfl : i = m := by omega
      rw [lkz_all L i (by have := Hm.out; omega)] at hU
      go_wp2
      go_ret
      have hli : i = (lk 0 L).length := by rw [lk_length]; have := Hm.out; omega
      refine ⟨_, _, _, rfl, ?_, B0⟩
      subst hli
      exact RdU.of_own hU (by omega)
end Go.Proofs.Ytlinmhmhgnhmeaa
