/-
  The walks of the landed digest's times, power, extend, Of, Join and Chain.
-/
import Derived.Test.YtlinmhmhgnhmeaaDigT
import Derived.Test.YtlinmhmhgnhmeaaShelf
import Derived.Laws.Bits64b
namespace Go.Proofs.Ytlinmhmhgnhmeaa
open Go.RowKit Dig
set_option linter.unusedVariables false
/-- No table is needed. -/
def Dt (_ : World) : Prop := True
theorem Dt.below {w w' : World} (_ : Dt w) (_ : Below w.heap.size w w') : Dt w' := True.intro
theorem dt_any (w : World) : Dt w := True.intro
theorem fold61 (x : Nat) : (x / 2305843009213693952 + x % 2305843009213693952) % P = x % P := by
  have h := Nat.div_add_mod x 2305843009213693952
  generalize x / 2305843009213693952 = q at h ⊢
  generalize x % 2305843009213693952 = r at h ⊢
  subst h
  rw [show 2305843009213693952 * q + r = (q + r) + P * q by rw [P_eq]; omega, Nat.add_mul_mod_self_left]
theorem high_low (x : Nat) (h : x < 5316911983139663491615228241121378304) : x / 18446744073709551616 * 8 + x % 18446744073709551616 / 2305843009213693952 = x / 2305843009213693952 ∧ x % 18446744073709551616 % 2305843009213693952 = x % 2305843009213693952 := by omega
theorem or_8 (H c : Nat) (hc : c < 8) : H * 8 ||| c = H * 8 + c := by
  have h := Nat.two_pow_add_eq_or_of_lt (i := 3) (b := c) (by omega) H
  rw [show 2 ^ 3 * H = H * 8 by omega] at h
  exact h.symm
theorem times_val (H L : Nat) (hH : H < 288230376151711744) (hL : L < 18446744073709551616) : (IntKind.u64.wrap (bits .or .u64 ((H : Int) * 8) ((L : Int) / 2305843009213693952) + bits .and .u64 (L : Int) 2305843009213693951)).tmod 2305843009213693951 = (((H * 8 + L / 2305843009213693952 + L % 2305843009213693952) % P : Nat) : Int) := by
  have h1 := bits_or_u64_nat (H * 8) (L / 2305843009213693952) (by omega) (by omega)
  have h2 := bits_and_u64_nat L 2305843009213693951 hL (by omega)
  rw [show ((H * 8 : Nat) : Int) = (H : Int) * 8 by omega, show ((L / 2305843009213693952 : Nat) : Int) = (L : Int) / 2305843009213693952 by omega, or_8 H _ (by omega)] at h1
  rw [show ((2305843009213693951 : Nat) : Int) = (2305843009213693951 : Int) from rfl, Nat.and_two_pow_sub_one_eq_mod L 61] at h2
  rw [h1, h2, show (2 ^ 61 : Nat) = 2305843009213693952 by decide]
  have e : IntKind.u64.wrap (((H * 8 + L / 2305843009213693952 : Nat) : Int) + ((L % 2305843009213693952 : Nat) : Int)) = ((H * 8 + L / 2305843009213693952 + L % 2305843009213693952 : Nat) : Int) := by
    rw [IntKind.wrap_u64]
    omega
  rw [e, Int.tmod_eq_emod_of_nonneg (by omega)]
  exact modP _
set_option maxRecDepth 20000 in
theorem times_walk (a b : Nat) (w : World) (ha : a < 2305843009213693951) (hb : b < 2305843009213693951) : Calls Try.prog 28 #[.int .u64 (a : Int), .int .u64 (b : Int)] w (U64Q (a * b % P) w) := by
  have hM := Try.bits_Mul64 a b (by omega) (by omega) w
  obtain ⟨x, hx⟩ : ∃ x, a * b = x := ⟨_, rfl⟩
  rw [hx] at hM ⊢
  have hx2 : x < 5316911983139663491615228241121378304 := by
    rw [← hx]
    exact Nat.mul_lt_mul'' (a := a) (b := b) (c := 2305843009213693952) (d := 2305843009213693952) (by omega) (by omega)
  clear hx
  have HM := Lib.hid hM
  obtain ⟨H, hH⟩ : ∃ H, x / 18446744073709551616 = H := ⟨_, rfl⟩
  obtain ⟨L, hL⟩ : ∃ L, x % 18446744073709551616 = L := ⟨_, rfl⟩
  rw [hH, hL] at HM
  have hv := times_val H L (by omega) (by omega)
  have hl := high_low x hx2
  rw [hH, hL] at hl
  rw [hl.1, hl.2, fold61] at hv
  have HV := Lib.hid hv
  clear hM hv hl
  go_enter Try.func28, Try.ntmps28
  go_wp2_with (go_at_call 32; (with_reducible refine HM.out.mono ?_); rintro e w1 ⟨rfl, hw⟩; obtain rfl := hw)
  go_ret
  exact ⟨congrArg (fun z => Ending.returned (Value.int .u64 z)) HV.out, rfl⟩
theorem timesB_walk (d : Nat) (w : World) (hd : d < 2305843009213693951) : Calls Try.prog 28 #[.int .u64 (d : Int), .int .u64 1099511628211] w (U64Q (d * B % P) w) := times_walk d 1099511628211 w hd (by omega)
theorem st_three (d : Nat) (c : UInt8) : (d * B % P + c.toNat + 1) % P = st d c := by rw [Nat.add_assoc]; exact st_two d c
theorem st_walk (d : Nat) (c : UInt8) : (IntKind.u64.wrap (IntKind.u64.wrap ((d : Int) * (B : Int) % (P : Int) + IntKind.u64.wrap (c.toNat : Int)) + 1)).tmod 2305843009213693951 = ((st d c : Nat) : Int) := by
  have hc := c.toNat_lt
  have p1 := P_le (d * B)
  rw [← st_three, ← Int.natCast_mul, ← Int.natCast_emod]
  generalize d * B % P = x at *
  have e : IntKind.u64.wrap (IntKind.u64.wrap ((x : Int) + IntKind.u64.wrap (c.toNat : Int)) + 1) = ((x + c.toNat + 1 : Nat) : Int) := by
    rw [IntKind.wrap_u64, IntKind.wrap_u64, IntKind.wrap_u64]
    omega
  rw [e, Int.tmod_eq_emod_of_nonneg (by omega)]
  exact modP _
theorem dgf_next (d : Nat) (s : ByteArray) (i : Nat) (h : i < s.size) : dgf d (s.data.toList.take (i + 1)) = st (dgf d (s.data.toList.take i)) s[i] := by
  rw [List.take_add_one, byte_L s i h]
  exact dgf_snoc _ _ _
set_option maxRecDepth 20000 in
set_option maxHeartbeats 1000000 in
theorem extend_walk (d0 : Nat) (s : ByteArray) (w : World) (h0 : d0 < 2305843009213693951) (hs : s.size ≤ 1000000) : Calls Try.prog 25 #[.int .u64 (d0 : Int), .string s] w (U64End (dgf d0 s.data.toList) w) := by
  have B0 := Below.refl w.heap.size w
  go_enter Try.func25, Try.ntmps25
  go_wp2
  go_loopw [0, 8] (fun y z wr => ∃ i d : Nat, i ≤ s.size ∧ z = .int .i64 (i : Int) ∧ y = .int .u64 (d : Int) ∧ d < 2305843009213693951 ∧ Hid (d = dgf d0 (s.data.toList.take i)) ∧ Below w.heap.size w wr) (fun _ z _ => s.size - (intOf z).toNat)
  case atStart => exact ⟨0, d0, Nat.zero_le _, rfl, rfl, h0, Lib.hid (by rw [List.take_zero]; rfl), B0⟩
  case round =>
    clear B0
    obtain ⟨i, d, hi, rfl, rfl, hd, hD, B0⟩ := hrel
    by_cases hlt : i < s.size
    · have hn := dgf_next d0 s i hlt
      rw [← hD.out] at hn
      have hc256 : s[i].toNat < 256 := s[i].toNat_lt
      have hS : Hid (st d s[i] = dgf d0 (s.data.toList.take (i + 1))) := hn.symm
      have p1 := P_le (d * B)
      have p2 : Hid (st d s[i] < 2305843009213693951) := P_le _
      have hcast := Lib.hid (st_walk d s[i])
      have i1 : (0 : Int) ≤ (i : Int) := by omega
      have i2 : (i : Int) < (s.size : Int) := by omega
      clear hn
      go_wp2_with fail
      go_region_held3 (fun _ => True) (exact True.intro)
        (first
        | (go_at_call 28; (with_reducible refine (timesB_walk d _ hd).mono ?_); rintro e w1 ⟨rfl, rfl⟩))
      all_goals go_wp2_with fail
      all_goals go_roundw
      all_goals (first | exact ⟨i + 1, st d s[i], by omega, by go_num, congrArg (fun z => Value.int .u64 z) hcast.out, p2.out, hS, B0.drew⟩ | (simp [intOf]; omega))
    · have hE : Hid (d = dgf d0 s.data.toList) := by
        have h := hD.out
        rwa [List.take_of_length_le (by rw [data_len]; omega)] at h
      go_wp2
      go_ret
      rw [← hE.out]
      exact ⟨rfl, B0⟩
theorem extend0_walk (s : ByteArray) (w : World) (hs : s.size ≤ 1000000) : Calls Try.prog 25 #[.int .u64 0, .string s] w (U64End (dg s.data.toList) w) := extend_walk 0 s w (by omega) hs
set_option maxRecDepth 20000 in
theorem of_c (s : ByteArray) (w : World) (ht : Dt w) (hs : s.size ≤ 1000000) : Calls Try.prog 12 #[.string s] w (U64End (dg s.data.toList) w) := by
  have HE := Lib.hid (extend0_walk s w hs)
  go_enter Try.func12, Try.ntmps12
  go_wp2_with (go_at_call 25; (with_reducible refine HE.out.mono ?_); rintro e w1 ⟨rfl, bb⟩)
  go_ret
  exact ⟨rfl, bb⟩
set_option maxRecDepth 20000 in
set_option maxHeartbeats 1000000 in
theorem power_walk (n : Int) (w : World) (hn : n ≤ 9223372036854775807) (hn2 : -9223372036854775808 ≤ n) : Calls Try.prog 29 #[.int .i64 n] w (U64Q (B ^ n.toNat % P) w) := by
  obtain ⟨T, hT⟩ : ∃ T, B ^ n.toNat = T := ⟨_, rfl⟩
  have hA : Hid (PoA T 1 1099511628211 n.toNat) := by show Cg _ _ _; rw [Nat.one_mul, ← hT]; exact Cg.refl _ _
  rw [hT]
  clear hT
  go_enter Try.func29, Try.ntmps29
  go_wp2
  go_loopw [0, 3, 4] (fun x y z wr => ∃ (m : Int) (o q : Nat), x = .int .i64 m ∧ y = .int .u64 (o : Int) ∧ z = .int .u64 (q : Int) ∧ m ≤ 9223372036854775807 ∧ o < 2305843009213693951 ∧ q < 2305843009213693951 ∧ Hid (PoA T o q m.toNat) ∧ w = wr) (fun x _ _ _ => (intOf x).toNat)
  case atStart => exact ⟨n, 1, 1099511628211, rfl, rfl, rfl, hn, by omega, by omega, hA, rfl⟩
  case round =>
    clear hA hn hn2
    obtain ⟨m, o, q, rfl, rfl, rfl, hm, ho, hq, hA, rfl⟩ := hrel
    by_cases h0 : 0 < m
    · obtain ⟨k, rfl⟩ := Int.eq_ofNat_of_zero_le (by omega : 0 ≤ m)
      rw [Int.toNat_natCast] at hA
      have p1 := P_le (q * q)
      by_cases h1 : k % 2 = 1
      · have hb1 : ((k : Int) % 2 == 1) = true := by simp; omega
        have hS := Lib.hid (hA.out.odd h1)
        have p2 := P_le (o * q)
        clear h1
        go_wp2_with (first | (go_at_call 28; (with_reducible refine (times_walk _ _ _ ho hq).mono ?_); rintro e w1 ⟨rfl, rfl⟩) | (go_at_call 28; (with_reducible refine (times_walk _ _ _ hq hq).mono ?_); rintro e w1 ⟨rfl, rfl⟩))
        go_roundw
        case rel => exact ⟨((k / 2 : Nat) : Int), _, _, by go_num, rfl, rfl, by omega, p2, p1, hS, by first | trivial | rfl⟩
        case measure => simp [intOf]; omega
      · have hb1 : ((k : Int) % 2 == 1) = false := by simp; omega
        have hS := Lib.hid (hA.out.even h1)
        clear h1
        go_wp2_with (first | (go_at_call 28; (with_reducible refine (times_walk _ _ _ hq hq).mono ?_); rintro e w1 ⟨rfl, rfl⟩))
        go_roundw
        case rel => exact ⟨((k / 2 : Nat) : Int), _, _, by go_num, rfl, rfl, by omega, ho, p1, hS, by first | trivial | rfl⟩
        case measure => simp [intOf]; omega
    · have hz : m.toNat = 0 := by omega
      have hD : Hid (o = T % P) := by
        have h := hA.out
        rw [hz] at h
        exact h.done ho
      clear hz
      go_wp2
      go_ret
      rw [← hD.out]
      exact ⟨rfl, rfl⟩
theorem add_mod_val (x y : Nat) (hx : x < 2305843009213693951) (hy : y < 2305843009213693951) : (IntKind.u64.wrap ((x : Int) + (y : Int))).tmod 2305843009213693951 = (((x + y) % P : Nat) : Int) := by
  have e : IntKind.u64.wrap ((x : Int) + (y : Int)) = ((x + y : Nat) : Int) := by
    rw [IntKind.wrap_u64]
    omega
  rw [e, Int.tmod_eq_emod_of_nonneg (by omega)]
  exact modP _
set_option maxRecDepth 20000 in
theorem join_c (a b : Nat) (n : Int) (w : World) (ht : Dt w) (ha : a < 18446744073709551616) (hb : b < 18446744073709551616) (hn : n ≤ 9223372036854775807) (hn2 : -9223372036854775808 ≤ n) : Calls Try.prog 14 #[.int .u64 (a : Int), .int .i64 n, .int .u64 (b : Int)] w (U64End (jn a n.toNat b) w) := by
  have p1 := P_le a
  have p2 := P_le b
  have p3 := P_le (B ^ n.toNat)
  obtain ⟨X, hX⟩ : ∃ X, B ^ n.toNat % P = X := ⟨_, rfl⟩
  have HW := Lib.hid (power_walk n w hn hn2)
  have hJ := jn_parts a n.toNat b
  rw [hX] at HW p3 hJ
  have p4 := P_le (a % P * X)
  have hv := add_mod_val (a % P * X % P) (b % P) p4 p2
  have e5 : (a % P * X % P + b % P) % P = jn a n.toNat b := by rw [← hJ, Nat.add_mod, Nat.mod_mod, ← Nat.add_mod]
  rw [e5] at hv
  have m1 : ((a : Nat) : Int) % 2305843009213693951 = ((a % P : Nat) : Int) := modP a
  have m2 : ((b : Nat) : Int) % 2305843009213693951 = ((b % P : Nat) : Int) := modP b
  obtain ⟨a', ha'⟩ : ∃ a', a % P = a' := ⟨_, rfl⟩
  obtain ⟨b', hb'⟩ : ∃ b', b % P = b' := ⟨_, rfl⟩
  rw [ha'] at m1 p1 p4 hv
  rw [hb'] at m2 p2 hv
  have HV := Lib.hid hv
  clear ha' hb' hX hJ e5 hv
  go_enter Try.func14, Try.ntmps14
  go_wp2_with (first
    | (go_at_call 29; (with_reducible refine HW.out.mono ?_); rintro e w1 ⟨rfl, rfl⟩)
    | (go_at_call 28; (with_reducible refine (times_walk a' X _ p1 p3).mono ?_); rintro e w1 ⟨rfl, rfl⟩))
  go_ret
  exact ⟨congrArg (fun z => Ending.returned (Value.int .u64 z)) HV.out, Below.refl _ _⟩
theorem dgf_mod (a : Nat) (s : List UInt8) : dgf (a % P) (10 :: s) = ch a s := by
  refine Cg.eq ((dgf_jn (10 :: s) (a % P)).trans ?_) (dgf_lt _ _ (Nat.mod_lt _ P_pos)) (ch_lt _ _)
  unfold ch
  refine Cg.trans ?_ (jn_cg _ _ _).symm
  rw [List.length_cons]
  exact (((Cg.mod P a).mul (Cg.refl P _))).add (Cg.refl P _)
set_option maxRecDepth 20000 in
theorem chain_c (a : Nat) (s : ByteArray) (w : World) (ht : Dt w) (ha : a < 18446744073709551616) (hs : s.size ≤ 900000) : Calls Try.prog 16 #[.int .u64 (a : Int), .string s] w (U64End (ch a s.data.toList) w) := by
  have B0 := Below.refl w.heap.size w
  have p1 := P_le a
  have m1 : ((a : Nat) : Int) % 2305843009213693951 = ((a % P : Nat) : Int) := modP a
  have hC : Hid (dgf (dgf (a % P) [10]) s.data.toList = ch a s.data.toList) := by
    show _ = _
    rw [← dgf_append]
    exact dgf_mod a _
  obtain ⟨a', ha'⟩ : ∃ a', a % P = a' := ⟨_, rfl⟩
  rw [ha'] at m1 p1 hC
  clear ha'
  have H1 := Lib.hid (extend_walk a' ⟨#[10]⟩ w p1 (by decide))
  rw [show (⟨#[10]⟩ : ByteArray).data.toList = [10] from rfl] at H1
  obtain ⟨D, hD⟩ : ∃ D, dgf a' [10] = D := ⟨_, rfl⟩
  have hD1 : D < 2305843009213693951 := by rw [← hD, ← P_eq]; exact dgf_lt _ _ (by rw [P_eq]; exact p1)
  rw [hD] at H1 hC
  clear hD
  go_enter Try.func16, Try.ntmps16
  go_wp2_with (first
    | (go_at_call 25; (with_reducible refine H1.out.mono ?_); rintro e w1 ⟨rfl, bb⟩; have B0 := B0.trans (bb.mono B0.size))
    | (go_at_call 25; (with_reducible refine (extend_walk D s _ hD1 (by omega)).mono ?_); rintro e w2 ⟨rfl, bb⟩; have B0 := B0.trans (bb.mono B0.size)))
  go_ret
  rw [← hC.out]
  exact ⟨rfl, B0⟩
end Go.Proofs.Ytlinmhmhgnhmeaa
