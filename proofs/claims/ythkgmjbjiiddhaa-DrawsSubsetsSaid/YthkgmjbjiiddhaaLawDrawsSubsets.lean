/-
  The walk of garmentlaw05.DrawsSubsets.
-/
import Derived.Test.YthkgmjbjiiddhaaLawDrawsPermutes
namespace Go.Proofs.Ythkgmjbjiiddhaa
open Go.RowKit Dra
set_option linter.unusedVariables false

theorem sm_n (d N K : Nat) (hN : N ≤ 1000) (hK : K ≤ N) (hd : d < 18446744073709551616) (w : World) :
    Calls Try.prog 20 #[.int .u64 (d : Int), .int .i64 (N : Int), .int .i64 (K : Int)] w fun e w' => ∃ A c, e = .returned (.tuple #[.int .u64 (skp (N - 1) d : Int), .slice A K c]) ∧ RdI w' (.slice A K c) (smp d N K) ∧ Below w.heap.size w w' := by
  have h := sample_walk d N K w hd
  rw [lim_of 1000 N hN, lim_of N K hK] at h
  refine h.mono ?_
  rintro e w' ⟨v, he, hR, hB⟩
  obtain ⟨A, c, e1, h1, h2, h3⟩ := hR
  have hl := smp_len d N K hK
  rw [hl] at e1
  subst e1
  exact ⟨A, c, he, ⟨A, c, by rw [hl], h1, h2, h3⟩, hB⟩
/-- Between the rounds: the two lists are as they were. -/
def SbA (L S : List Nat) (w : World) (A : Option Addr) (K c g : Nat) (wr : World) : Prop := OwI 3 wr g L ∧ RdI wr (.slice A K c) S ∧ Below w.heap.size w wr
theorem SbA.drewN {L S : List Nat} {w : World} {A : Option Addr} {K c g : Nat} {wr : World} (h : SbA L S w A K c g wr) (n : Nat) : SbA L S w A K c g (wr.drewN n) := ⟨h.1.drewN n, h.2.1, bs_drewN h.2.2 n⟩
theorem found_step (L : List Nat) (j y m : Nat) (hm : L[j]? = some m) : decide (y ∈ L.take (j + 1)) = (decide (y ∈ L.take j) || decide (m = y)) := by
  rw [List.take_add_one, hm]
  simp [eq_comm]
set_option maxRecDepth 20000 in
set_option maxHeartbeats 2000000 in
theorem lawdrawssubsets_walk (w : World) (d : Nat) (hd : d < 18446744073709551616) (n : Int) (hn0 : -9223372036854775808 ≤ n) (hn : n ≤ 9223372036854775807) (k : Int) (hk0 : -9223372036854775808 ≤ k) (hk : k ≤ 9223372036854775807) : Calls Try.prog 10 #[.int .u64 (d : Int), .int .i64 n, .int .i64 k] w fun e w' => e = .returned (.bool true) ∧ Below w.heap.size w w' := by
  have B0 := Below.refl w.heap.size w
  have Hd := Lib.hid hd
  clear hd hn0 hn hk0 hk
  go_enter Try.func10, Try.ntmps10
  by_cases hbad : k < 0 ∨ k > n ∨ n > 300
  · go_wp2_with (go_at_call 16; with_reducible refine (awake_walk _).mono ?_; rintro e w1 ⟨rfl, bb⟩; have B0 := B0.trans (bb.mono B0.size); clear bb)
    all_goals go_ret
    all_goals exact ⟨rfl, B0⟩
  · obtain ⟨N, rfl⟩ : ∃ N : Nat, n = (N : Int) := ⟨n.toNat, by omega⟩
    obtain ⟨K, rfl⟩ : ∃ K : Nat, k = (K : Int) := ⟨k.toNat, by omega⟩
    have hN : N ≤ 300 := by omega
    have hKN : K ≤ N := by omega
    have HN : Hid (N ≤ 1000) := by show _ ≤ _; omega
    obtain ⟨L, hL⟩ : ∃ L, shuf d N = L := ⟨_, rfl⟩
    obtain ⟨S, hS⟩ : ∃ S, smp d N K = S := ⟨_, rfl⟩
    have HO : Hid (Ord L N) := by rw [← hL]; exact shuf_ord d N
    have HSP : Hid (S = pick L N K) := by rw [← hS, ← hL]; rfl
    have Hlen : Hid (S.length = K) := by rw [← hS]; exact smp_len d N K hKN
    have HL := Lib.hid hL
    have HS := Lib.hid hS
    clear hL hS hbad
    go_wp2_with (first
      | (go_at_call 20; with_reducible refine (sm_n d N K HN.out hKN Hd.out _).mono ?_; rw [HS.out]; rintro e w1 ⟨A, c, rfl, hR, bb⟩; have B0 := B0.trans (bb.mono B0.size); clear bb)
      | (go_at_call 17; with_reducible refine (sh_n d N HN.out Hd.out _).mono ?_; rw [HL.out]; rintro e w2 ⟨g, rfl, _, hU, bb⟩; have hR := hR.below bb; have B0 := B0.trans (bb.mono B0.size); clear bb))
    go_loopw [11] (fun z wr => ∃ i : Nat, i ≤ K ∧ z = .int .i64 (i : Int) ∧ SbA L S w A K c g wr) (fun z _ => K - (intOf z).toNat)
    case atStart => exact ⟨0, Nat.zero_le _, rfl, hU, hR, B0⟩
    case round =>
      obtain ⟨i, hi1, rfl, hI⟩ := hrel
      by_cases hlt : i < K
      · obtain ⟨y, hy⟩ : ∃ y, S[i]? = some y := ⟨_, List.getElem?_eq_getElem (by have := Hlen.out; omega)⟩
        have Hy := Lib.hid hy
        clear hy
        have hyL : y ∈ L.take K := by
          have h1 : y ∈ S := List.mem_of_getElem? Hy.out
          rw [HSP.out] at h1
          exact ((pick_mem _ _ _ _).1 h1).2
        have HyL := Lib.hid hyL
        clear hyL
        go_wp2
        go_loopw [12, 13] (fun f z wr2 => ∃ (b : Bool) (j : Nat), j ≤ K ∧ f = .bool b ∧ z = .int .i64 (j : Int) ∧ Hid (b = decide (y ∈ L.take j)) ∧ SbA L S w A K c g wr2) (fun _ z _ => K - (intOf z).toNat)
        case atStart => exact ⟨false, 0, Nat.zero_le _, rfl, rfl, Lib.hid (by simp), hI⟩
        case round =>
          obtain ⟨b, j, hj1, rfl, rfl, hb, hI⟩ := hrel
          by_cases hjK : j < K
          · obtain ⟨m, hm⟩ : ∃ m, L[j]? = some m := ⟨_, List.getElem?_eq_getElem (by have := HO.out.1; omega)⟩
            have hc1 := hI.1.cell j m hm
            obtain ⟨g', off, rfl, hC⟩ := hI.2.1.cel (by have := Hlen.out; omega)
            have hc2 := hC i y Hy.out
            have Hm := Lib.hid hm
            clear hm hC
            cases b with
            | true =>
              go_wp2
              go_quiet (fail)
              go_wp2
              go_roundw
              case rel => exact ⟨true, j + 1, by omega, rfl, by go_num, Lib.hid (by rw [found_step L j y m Hm.out, ← hb.out]; rfl), hI.drewN _⟩
              case measure => simp [intOf]; omega
            | false =>
              by_cases hmy : m = y
              · subst hmy
                go_wp2
                go_quiet (fail)
                go_wp2
                go_roundw
                case rel => exact ⟨true, j + 1, by omega, rfl, by go_num, Lib.hid (by rw [found_step L j m m Hm.out, ← hb.out]; simp), hI.drewN _⟩
                case measure => simp [intOf]; omega
              · have hne : ((m : Int) == (y : Int)) = false := by simp; omega
                go_wp2
                go_quiet (fail)
                go_wp2
                go_roundw
                case rel => exact ⟨false, j + 1, by omega, rfl, by go_num, Lib.hid (by rw [found_step L j y m Hm.out, ← hb.out]; simp [hmy]), hI.drewN _⟩
                case measure => simp [intOf]; omega
          · have hbt : b = true := by
              rw [hb.out, show j = K by omega]
              exact decide_eq_true HyL.out
            subst hbt
            have hc2 : ∃ g' off, A = some ⟨g', off, none⟩ ∧ CelI _ g' off S := hI.2.1.cel (by have := Hlen.out; omega)
            obtain ⟨g', off, rfl, hC⟩ := hc2
            have hcy := hC i y Hy.out
            by_cases hi0 : i = 0
            · subst hi0
              clear hC
              go_wp2
              go_quiet (fail)
              go_wp2
              go_roundw
              case rel => exact ⟨1, by omega, by go_num, hI.drewN _⟩
              case measure => simp [intOf]; omega
            · obtain ⟨p, rfl⟩ : ∃ p, i = p + 1 := ⟨i - 1, by omega⟩
              obtain ⟨x, hx⟩ : ∃ x, S[p]? = some x := ⟨_, List.getElem?_eq_getElem (by have := Hlen.out; omega)⟩
              have hcx := hC p x hx
              have hxy : x < y := by
                have h1 := Hy.out
                rw [HSP.out] at h1 hx
                exact pick_lt L N K p x y hx h1
              have hge : decide (y ≤ x) = false := decide_eq_false (by omega)
              clear hx hC hi0
              go_wp2
              go_quiet (fail)
              go_wp2
              go_roundw
              case rel => exact ⟨p + 1 + 1, by omega, by go_num, hI.drewN _⟩
              case measure => simp [intOf]; omega
      · obtain ⟨hU, hR, hB⟩ := hI
        go_wp2_with (go_at_call 16; with_reducible refine (awake_walk _).mono ?_; rintro e w1 ⟨rfl, bb⟩; have hB := hB.trans (bb.mono hB.size); clear bb)
        go_ret
        exact ⟨rfl, hB⟩
end Go.Proofs.Ythkgmjbjiiddhaa
