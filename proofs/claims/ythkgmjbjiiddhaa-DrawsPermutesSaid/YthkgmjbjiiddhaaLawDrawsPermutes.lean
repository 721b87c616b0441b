/-
  The walk of garmentlaw05.DrawsPermutes.
-/
import Derived.Test.YthkgmjbjiiddhaaDraA
namespace Go.Proofs.Ythkgmjbjiiddhaa
open Go.RowKit Dra
set_option linter.unusedVariables false

theorem info_bool : (Try.prog.info? 4).map (fun i => (i.zero, i.size, i.bytes)) = some (some (.bool false), 1, 1) := by kernel_rfl
theorem sk_m (d N : Nat) (hN : N ≤ 1000) (w : World) : Calls Try.prog 22 #[.int .u64 (d : Int), .int .i64 ((N : Int) - 1)] w fun e w' => e = .returned (.int .u64 (skp (N - 1) d : Int)) ∧ Below w.heap.size w w' := by
  have h := skip_walk d ((N : Int) - 1) w (by omega)
  rw [show ((N : Int) - 1).toNat = N - 1 by omega] at h
  exact h
theorem sh_n (d N : Nat) (hN : N ≤ 1000) (hd : d < 18446744073709551616) (w : World) :
    Calls Try.prog 17 #[.int .u64 (d : Int), .int .i64 (N : Int)] w fun e w' => ∃ g, e = .returned (.tuple #[.int .u64 (skp (N - 1) d : Int), .slice (some ⟨g, 0, none⟩) N N]) ∧ w.heap.size ≤ g ∧ OwI 3 w' g (shuf d N) ∧ Below w.heap.size w w' := by
  have h := shuffle_walk d N w hd
  rw [lim_of 1000 N hN] at h
  exact h
/-- Which numbers below N are among the first i. -/
def metl (L : List Nat) (N i : Nat) : List Bool := (List.range N).map fun x => decide (x ∈ L.take i)
theorem metl_zero (L : List Nat) (N : Nat) : metl L N 0 = List.replicate N false := by
  apply List.ext_getElem <;> simp [metl]
theorem metl_at (L : List Nat) (N i x : Nat) (hO : Ord L N) (hx : L[i]? = some x) : (metl L N i)[x]? = some false := by
  obtain ⟨hi, rfl⟩ := List.getElem?_eq_some_iff.1 hx
  have hlt : L[i] < N := hO.2.1 _ (List.getElem_mem hi)
  have hn : ¬ L[i] ∈ L.take i := fun h => by
    obtain ⟨j, hj, e⟩ := List.getElem_of_mem h
    rw [List.getElem_take] at e
    rw [List.length_take] at hj
    have := (List.getElem_inj hO.2.2).1 e
    omega
  simp [metl, hlt, hn]
theorem metl_set (L : List Nat) (N i x : Nat) (hx : L[i]? = some x) : (metl L N i).set x true = metl L N (i + 1) := by
  obtain ⟨hi, rfl⟩ := List.getElem?_eq_some_iff.1 hx
  apply List.ext_getElem
  · simp [metl]
  · intro j h1 h2
    rw [List.getElem_set]
    simp only [metl, List.getElem_map, List.getElem_range]
    rw [List.take_add_one, List.getElem?_eq_getElem hi]
    by_cases h : L[i] = j
    · simp [h]
    · have e : (j ∈ L.take i ++ (some L[i]).toList) ↔ j ∈ L.take i := by
        rw [List.mem_append]
        exact ⟨fun h4 => h4.elim id (fun h5 => absurd (by simpa using h5 : j = L[i]).symm h), Or.inl⟩
      rw [if_neg h]
      simp only [e]
/-- Between the rounds. -/
def PmA (L : List Nat) (N : Nat) (w : World) (g h : Nat) (i : Nat) (wr : World) : Prop := OwI 3 wr g L ∧ OwB 4 wr h (metl L N i) ∧ Below w.heap.size w wr
theorem PmA.step {L : List Nat} {N : Nat} {w : World} {g h i x : Nat} {wr : World} (hU : OwI 3 wr g L) (hV : OwB 4 wr h (metl L N i)) (hB : Below w.heap.size w wr) (hgh : g < h) (hh : w.heap.size ≤ h) (hx : L[i]? = some x) : PmA L N w g h (i + 1) (wr.setCell ⟨h, x, none⟩ (.bool true)) := by
  refine ⟨hU.below ((Below.refl h wr).setCell (p := ⟨h, x, none⟩) (Nat.le_refl h) _) hgh, ?_, hB.setCell hh _⟩
  rw [← metl_set L N i x hx]
  exact hV.set_ x true
set_option maxRecDepth 20000 in
set_option maxHeartbeats 2000000 in
theorem lawdrawspermutes_walk (w : World) (d : Nat) (hd : d < 18446744073709551616) (n : Int) (hn0 : -9223372036854775808 ≤ n) (hn : n ≤ 9223372036854775807) : Calls Try.prog 9 #[.int .u64 (d : Int), .int .i64 n] w fun e w' => e = .returned (.bool true) ∧ Below w.heap.size w w' := by
  have B0 := Below.refl w.heap.size w
  have Hd := Lib.hid hd
  clear hd hn0 hn
  obtain ⟨i0, hi, hz0, hz1, hz2⟩ := info_parts info_bool
  go_enter Try.func9, Try.ntmps9
  by_cases h0 : n < 0
  · go_wp2_with (go_at_call 16; with_reducible refine (awake_walk _).mono ?_; rintro e w1 ⟨rfl, bb⟩; have B0 := B0.trans (bb.mono B0.size); clear bb)
    go_ret
    exact ⟨rfl, B0⟩
  · by_cases h1 : n > 1000
    · go_wp2_with (go_at_call 16; with_reducible refine (awake_walk _).mono ?_; rintro e w1 ⟨rfl, bb⟩; have B0 := B0.trans (bb.mono B0.size); clear bb)
      go_ret
      exact ⟨rfl, B0⟩
    · obtain ⟨N, rfl⟩ : ∃ N : Nat, n = (N : Int) := ⟨n.toNat, by omega⟩
      have hN : N ≤ 1000 := by omega
      obtain ⟨L, hL⟩ : ∃ L, shuf d N = L := ⟨_, rfl⟩
      have HO : Hid (Ord L N) := by rw [← hL]; exact shuf_ord d N
      have HL := Lib.hid hL
      clear hL h0 h1
      go_wp2_with (first
        | (go_at_call 17; with_reducible refine (sh_n d N hN Hd.out _).mono ?_; rw [HL.out]; rintro e w1 ⟨g, rfl, hg, hU, bb⟩; have HG := Lib.hid hg; have B0 := B0.trans (bb.mono B0.size); clear bb hg)
        | (go_at_call 22; with_reducible refine (sk_m d N hN _).mono ?_; rintro e w2 ⟨rfl, bb⟩; have hU := hU.below bb hU.lt; have B0 := B0.trans (bb.mono B0.size); clear bb)
        | (at_make; refine wpList_make_bool _ rfl (.tmp 34) (.tmp 34) 37 rfl 4 i0 Try.underlying37 hi hz0 hz1 (by omega) .i64 .i64 N N N rfl rfl rfl rfl (by omega) ?_; intro h w3 hg3 hV bb hs3; have hglt := hU.lt; have hU := hU.below bb hglt; have B0 := B0.trans (bb.mono B0.size); have Hgh : Hid (g < h) := (by rw [hg3]; exact hglt); have Hh : Hid (w.heap.size ≤ h) := (by show _ ≤ _; have := HG.out; have := Hgh.out; omega); clear hg3 bb))
      rw [← metl_zero L N] at hV
      go_loopw [8] (fun z wr => ∃ i : Nat, i ≤ N ∧ z = .int .i64 (i : Int) ∧ PmA L N w g h i wr) (fun z _ => N - (intOf z).toNat)
      case atStart => exact ⟨0, Nat.zero_le _, rfl, hU, hV, B0⟩
      case round =>
        obtain ⟨i, hi1, rfl, hU, hV, hB⟩ := hrel
        by_cases hlt : i < N
        · obtain ⟨x, hx⟩ : ∃ x, L[i]? = some x := ⟨_, List.getElem?_eq_getElem (by have := HO.out.1; omega)⟩
          have hxN : x < N := HO.out.2.1 x (List.mem_of_getElem? hx)
          have hc1 := hU.cell i x hx
          have hc2 := hV.cell x false (metl_at L N i x HO.out hx)
          have hf2 := hV.frozen x
          have Hx := Lib.hid hx
          clear hx
          go_wp2
          go_roundw
          case rel => exact ⟨i + 1, by omega, by go_num, PmA.step hU hV hB Hgh.out Hh.out Hx.out⟩
          case measure => simp [intOf]; omega
        · go_wp2_with (go_at_call 16; with_reducible refine (awake_walk _).mono ?_; rintro e w1 ⟨rfl, bb⟩; have hB := hB.trans (bb.mono hB.size); clear bb)
          go_ret
          exact ⟨rfl, hB⟩
end Go.Proofs.Ythkgmjbjiiddhaa
