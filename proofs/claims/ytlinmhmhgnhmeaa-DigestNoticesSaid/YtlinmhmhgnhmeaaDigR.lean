/-
  The walks of the reference's add, mul, power, Of, Join, Chain.
-/
import Derived.Test.YtlinmhmhgnhmeaaDigM
namespace Go.Proofs.Ytlinmhmhgnhmeaa
open Go.RowKit Dig
set_option linter.unusedVariables false
def U64Q (d : Nat) (w : World) (e : Ending) (w' : World) : Prop := e = .returned (.int .u64 (d : Int)) ∧ w = w'
theorem modP (x : Nat) : ((x : Nat) : Int) % 2305843009213693951 = ((x % P : Nat) : Int) := by rw [P_eq]; omega
set_option maxRecDepth 20000 in
theorem radd_walk (a b : Nat) (w : World) (ha : a < 2305843009213693951) (hb : b < 2305843009213693951) : Calls Try.prog 26 #[.int .u64 (a : Int), .int .u64 (b : Int)] w (U64Q ((a + b) % P) w) := by
  go_enter Try.func26, Try.ntmps26
  go_wp2
  go_ret
  exact ⟨congrArg (fun z => Ending.returned (Value.int .u64 z)) (by rw [← modP]; rfl), rfl⟩
theorem P_le (x : Nat) : x % P < 2305843009213693951 := by rw [← P_eq]; exact Nat.mod_lt _ P_pos
/-- Between the rounds of mul. -/
def MuA (T a b o : Nat) : Prop := Cg P (o + a * b) T
theorem MuA.odd {T a b o : Nat} (h : MuA T a b o) (hb : b % 2 = 1) : MuA T ((a + a) % P) (b / 2) ((o + a) % P) := by
  refine (((Cg.mod P (o + a)).add ((Cg.mod P (a + a)).mul (Cg.refl P (b / 2)))).trans (Cg.of_eq ?_)).trans h
  have e : b = 2 * (b / 2) + 1 := by omega
  generalize b / 2 = c at e ⊢
  subst e
  grind
theorem MuA.even {T a b o : Nat} (h : MuA T a b o) (hb : ¬ b % 2 = 1) : MuA T ((a + a) % P) (b / 2) o := by
  refine (((Cg.refl P o).add ((Cg.mod P (a + a)).mul (Cg.refl P (b / 2)))).trans (Cg.of_eq ?_)).trans h
  have e : b = 2 * (b / 2) := by omega
  generalize b / 2 = c at e ⊢
  subst e
  grind
theorem MuA.done {T a o : Nat} (h : MuA T a 0 o) (ho : o < 2305843009213693951) : o = T % P := by
  have h1 : Cg P (o + a * 0) T := h
  rw [Nat.mul_zero, Nat.add_zero] at h1
  have h2 : o % P = T % P := h1
  rwa [Nat.mod_eq_of_lt (by rw [P_eq]; exact ho)] at h2
set_option maxRecDepth 20000 in
set_option maxHeartbeats 1000000 in
theorem rmul_walk (a b : Nat) (w : World) (ha : a < 2305843009213693951) (hb : b < 18446744073709551616) : Calls Try.prog 27 #[.int .u64 (a : Int), .int .u64 (b : Int)] w (U64Q (a * b % P) w) := by
  have hA : Hid (MuA (a * b) a b 0) := by show Cg _ _ _; rw [Nat.zero_add]; exact Cg.refl _ _
  obtain ⟨T, hT⟩ : ∃ T, a * b = T := ⟨_, rfl⟩
  rw [hT] at hA ⊢
  clear hT
  go_enter Try.func27, Try.ntmps27
  go_wp2
  go_loopw [0, 1, 5] (fun x y z wr => ∃ c d o : Nat, x = .int .u64 (c : Int) ∧ y = .int .u64 (d : Int) ∧ z = .int .u64 (o : Int) ∧ c < 2305843009213693951 ∧ d < 18446744073709551616 ∧ o < 2305843009213693951 ∧ Hid (MuA T c d o) ∧ w = wr) (fun _ y _ _ => (intOf y).toNat)
  case atStart => exact ⟨a, b, 0, rfl, rfl, rfl, ha, hb, by omega, hA, rfl⟩
  case round =>
    clear hA ha hb
    obtain ⟨c, d, o, rfl, rfl, rfl, hc, hd, ho, hA, rfl⟩ := hrel
    by_cases h0 : 0 < d
    · have p1 := P_le (c + c)
      by_cases h1 : d % 2 = 1
      · have hb1 : ((d : Int) % 2 == 1) = true := by simp; omega
        have hS := Lib.hid (hA.out.odd h1)
        have p2 := P_le (o + c)
        clear h1
        go_wp2_with (first | (go_at_call 26; (with_reducible refine (radd_walk _ _ _ ho hc).mono ?_); rintro e w1 ⟨rfl, rfl⟩) | (go_at_call 26; (with_reducible refine (radd_walk _ _ _ hc hc).mono ?_); rintro e w1 ⟨rfl, rfl⟩))
        go_roundw
        case rel => exact ⟨_, d / 2, _, rfl, by go_num, rfl, p1, by omega, p2, hS, by first | trivial | rfl⟩
        case measure => simp [intOf]; omega
      · have hb1 : ((d : Int) % 2 == 1) = false := by simp; omega
        have hS := Lib.hid (hA.out.even h1)
        clear h1
        go_wp2_with (first | (go_at_call 26; (with_reducible refine (radd_walk _ _ _ hc hc).mono ?_); rintro e w1 ⟨rfl, rfl⟩))
        go_roundw
        case rel => exact ⟨_, d / 2, _, rfl, by go_num, rfl, p1, by omega, ho, hS, by first | trivial | rfl⟩
        case measure => simp [intOf]; omega
    · obtain rfl : d = 0 := by omega
      have hD := Lib.hid (hA.out.done ho)
      go_wp2
      go_ret
      rw [← hD.out]
      exact ⟨rfl, rfl⟩
/-- Between the rounds of power. -/
def PoA (T o q n : Nat) : Prop := Cg P (o * q ^ n) T
theorem PoA.odd {T o q n : Nat} (h : PoA T o q n) (hn : n % 2 = 1) : PoA T (o * q % P) (q * q % P) (n / 2) := by
  have hp : ∀ k : Nat, Cg P ((q * q % P) ^ k) ((q * q) ^ k) := fun k => by
    induction k with
    | zero => exact Cg.refl _ _
    | succ k ih => rw [Nat.pow_succ, Nat.pow_succ]; exact ih.mul (Cg.mod P _)
  refine (((Cg.mod P (o * q)).mul (hp (n / 2))).trans (Cg.of_eq ?_)).trans h
  have e : n = n / 2 + n / 2 + 1 := by omega
  generalize n / 2 = c at e ⊢
  subst e
  rw [Nat.mul_pow, Nat.pow_succ, Nat.pow_add]
  generalize q ^ c = X
  grind
theorem PoA.even {T o q n : Nat} (h : PoA T o q n) (hn : ¬ n % 2 = 1) : PoA T o (q * q % P) (n / 2) := by
  have hp : ∀ k : Nat, Cg P ((q * q % P) ^ k) ((q * q) ^ k) := fun k => by
    induction k with
    | zero => exact Cg.refl _ _
    | succ k ih => rw [Nat.pow_succ, Nat.pow_succ]; exact ih.mul (Cg.mod P _)
  refine (((Cg.refl P o).mul (hp (n / 2))).trans (Cg.of_eq ?_)).trans h
  have e : n = n / 2 + n / 2 := by omega
  generalize n / 2 = c at e ⊢
  subst e
  rw [Nat.mul_pow, Nat.pow_add]
theorem PoA.done {T o q : Nat} (h : PoA T o q 0) (ho : o < 2305843009213693951) : o = T % P := by
  have h1 : Cg P (o * q ^ 0) T := h
  rw [Nat.pow_zero, Nat.mul_one] at h1
  have h2 : o % P = T % P := h1
  rwa [Nat.mod_eq_of_lt (by rw [P_eq]; exact ho)] at h2
set_option maxRecDepth 20000 in
set_option maxHeartbeats 1000000 in
theorem rpower_walk (n : Int) (w : World) (hn : n ≤ 9223372036854775807) (hn2 : -9223372036854775808 ≤ n) : Calls Try.prog 30 #[.int .i64 n] w (U64Q (B ^ n.toNat % P) w) := by
  obtain ⟨T, hT⟩ : ∃ T, B ^ n.toNat = T := ⟨_, rfl⟩
  have hA : Hid (PoA T 1 1099511628211 n.toNat) := by show Cg _ _ _; rw [Nat.one_mul, ← hT]; exact Cg.refl _ _
  rw [hT]
  clear hT
  go_enter Try.func30, Try.ntmps30
  go_wp2
  go_loopw [0, 3, 4] (fun x y z wr => ∃ (m : Int) (o q : Nat), x = .int .i64 m ∧ y = .int .u64 (o : Int) ∧ z = .int .u64 (q : Int) ∧ m ≤ 9223372036854775807 ∧ o < 2305843009213693951 ∧ q < 2305843009213693951 ∧ Hid (PoA T o q m.toNat) ∧ w = wr) (fun x _ _ _ => (intOf x).toNat)
  case atStart => exact ⟨n, 1, 1099511628211, rfl, rfl, rfl, hn, by omega, by omega, hA, rfl⟩
  case round =>
    clear hA hn hn2
    obtain ⟨m, o, q, rfl, rfl, rfl, hm, ho, hq, hA, rfl⟩ := hrel
    by_cases h0 : 0 < m
    · obtain ⟨k, rfl⟩ := Int.eq_ofNat_of_zero_le (by omega : 0 ≤ m)
      rw [Int.toNat_natCast] at hA
      have p1 := P_le (q * q)
      by_cases h1 : k % 2 = 1
      · have hb1 : ((k : Int) % 2 == 1) = true := by simp; omega
        have hS := Lib.hid (hA.out.odd h1)
        have p2 := P_le (o * q)
        clear h1
        go_wp2_with (first | (go_at_call 27; (with_reducible refine (rmul_walk _ _ _ ho (by omega)).mono ?_); rintro e w1 ⟨rfl, rfl⟩) | (go_at_call 27; (with_reducible refine (rmul_walk _ _ _ hq (by omega)).mono ?_); rintro e w1 ⟨rfl, rfl⟩))
        go_roundw
        case rel => exact ⟨((k / 2 : Nat) : Int), _, _, by go_num, rfl, rfl, by omega, p2, p1, hS, by first | trivial | rfl⟩
        case measure => simp [intOf]; omega
      · have hb1 : ((k : Int) % 2 == 1) = false := by simp; omega
        have hS := Lib.hid (hA.out.even h1)
        clear h1
        go_wp2_with (first | (go_at_call 27; (with_reducible refine (rmul_walk _ _ _ hq (by omega)).mono ?_); rintro e w1 ⟨rfl, rfl⟩))
        go_roundw
        case rel => exact ⟨((k / 2 : Nat) : Int), _, _, by go_num, rfl, rfl, by omega, ho, p1, hS, by first | trivial | rfl⟩
        case measure => simp [intOf]; omega
    · have hz : m.toNat = 0 := by omega
      have hD : Hid (o = T % P) := by
        have h := hA.out
        rw [hz] at h
        exact h.done ho
      clear hz
      go_wp2
      go_ret
      rw [← hD.out]
      exact ⟨rfl, rfl⟩
/-! ### Of, Join, Chain -/
theorem rmulB_walk (d : Nat) (w : World) (hd : d < 2305843009213693951) : Calls Try.prog 27 #[.int .u64 (d : Int), .int .u64 1099511628211] w (U64Q (d * B % P) w) := rmul_walk d 1099511628211 w hd (by omega)
theorem wrapc (c : Nat) (h : c < 256) : IntKind.u64.wrap (IntKind.u64.wrap (c : Int) + 1) = ((c + 1 : Nat) : Int) := by simp [IntKind.wrap, IntKind.bits, IntKind.signed]; omega
theorem radd_z (a b : Nat) (y z : Int) (w : World) (hy : y = (a : Int)) (hz : z = (b : Int)) (ha : a < 2305843009213693951) (hb : b < 2305843009213693951) : Calls Try.prog 26 #[.int .u64 y, .int .u64 z] w (U64Q ((a + b) % P) w) := by
  subst hy hz
  exact radd_walk a b w ha hb
theorem byte_L (s : ByteArray) (k : Nat) (h : k < s.size) : s.data.toList[k]? = some s[k] := by
  rw [Array.getElem?_toList]
  exact Array.getElem?_eq_getElem h
theorem dg_next (s : ByteArray) (i : Nat) (h : i < s.size) : dg (s.data.toList.take (i + 1)) = st (dg (s.data.toList.take i)) s[i] := by
  rw [List.take_add_one, byte_L s i h]
  exact dgf_snoc _ _ _
theorem st_two (d : Nat) (c : UInt8) : (d * B % P + (c.toNat + 1)) % P = st d c := by
  show Cg P _ _
  rw [Nat.add_assoc]
  exact (Cg.mod P (d * B)).add (Cg.refl P _)
set_option maxRecDepth 20000 in
set_option maxHeartbeats 1000000 in
theorem rof_walk (s : ByteArray) (w : World) (hs : s.size ≤ 1000000) : Calls Try.prog 13 #[.string s] w (U64End (dg s.data.toList) w) := by
  have B0 := Below.refl w.heap.size w
  go_enter Try.func13, Try.ntmps13
  go_wp2
  go_loopw [3, 4] (fun y z wr => ∃ i d : Nat, i ≤ s.size ∧ z = .int .i64 (i : Int) ∧ y = .int .u64 (d : Int) ∧ d < 2305843009213693951 ∧ Hid (d = dg (s.data.toList.take i)) ∧ Below w.heap.size w wr) (fun _ z _ => s.size - (intOf z).toNat)
  case atStart => exact ⟨0, 0, Nat.zero_le _, rfl, rfl, by omega, Lib.hid (by rw [List.take_zero]; rfl), B0⟩
  case round =>
    clear B0
    obtain ⟨i, d, hi, rfl, rfl, hd, hD, B0⟩ := hrel
    by_cases hlt : i < s.size
    · have hn := dg_next s i hlt
      rw [← hD.out] at hn
      have hc256 : s[i].toNat < 256 := s[i].toNat_lt
      have hS : Hid (st d s[i] = dg (s.data.toList.take (i + 1))) := hn.symm
      have p1 := P_le (d * B)
      have p2 : Hid (st d s[i] < 2305843009213693951) := P_le _
      have hcast : Hid (((d : Int) * (B : Int) + ((s[i].toNat : Int) + 1)) % (P : Int) = ((st d s[i] : Nat) : Int)) := by
        show _ = _
        unfold st
        rw [Int.natCast_emod, Int.natCast_add, Int.natCast_add, Int.natCast_mul, Int.add_assoc]
        rfl
      have i1 : (0 : Int) ≤ (i : Int) := by omega
      have i2 : (i : Int) < (s.size : Int) := by omega
      clear hn
      go_wp2_with fail
      go_region_held3 (fun _ => True) (exact True.intro)
        (first
        | (go_at_call 27; (with_reducible refine (rmulB_walk d _ hd).mono ?_); rintro e w1 ⟨rfl, rfl⟩)
        | (go_at_call 26; (with_reducible refine (radd_z (d * B % P) (s[i].toNat + 1) _ _ _ (by first | rfl | omega | simp) (by first | exact wrapc _ hc256 | rfl) p1 (by omega)).mono ?_); rintro e w2 ⟨rfl, rfl⟩))
      all_goals go_wp2_with fail
      all_goals go_roundw
      all_goals (first | exact ⟨i + 1, st d s[i], by omega, by go_num, congrArg (fun z => Value.int .u64 z) hcast.out, p2.out, hS, B0.drew⟩ | (simp [intOf]; omega))
    · have hE : Hid (d = dg s.data.toList) := by
        have h := hD.out
        rwa [List.take_of_length_le (by rw [data_len]; omega)] at h
      go_wp2
      go_ret
      rw [← hE.out]
      exact ⟨rfl, B0⟩
theorem jn_parts (a n b : Nat) : (a % P * (B ^ n % P) + b % P) % P = jn a n b := by
  have h : Cg P (a % P * (B ^ n % P) + b % P) (a * B ^ n + b) := ((Cg.mod P a).mul (Cg.mod P _)).add (Cg.mod P b)
  exact h
theorem lt64 {x : Nat} (h : x < 2305843009213693951) : x < 18446744073709551616 := by omega
set_option maxRecDepth 20000 in
theorem rjoin_walk (a b : Nat) (n : Int) (w : World) (hn : n ≤ 9223372036854775807) (hn2 : -9223372036854775808 ≤ n) : Calls Try.prog 15 #[.int .u64 (a : Int), .int .i64 n, .int .u64 (b : Int)] w (U64Q (jn a n.toNat b) w) := by
  have p1 := P_le a
  have p2 := P_le b
  have p3 := P_le (B ^ n.toNat)
  obtain ⟨X, hX⟩ : ∃ X, B ^ n.toNat % P = X := ⟨_, rfl⟩
  have HW := Lib.hid (rpower_walk n w hn hn2)
  have hJ := jn_parts a n.toNat b
  rw [hX] at HW p3 hJ
  have HJ := Lib.hid hJ
  have p4 := P_le (a % P * X)
  have m1 : ((a : Nat) : Int) % 2305843009213693951 = ((a % P : Nat) : Int) := modP a
  have m2 : ((b : Nat) : Int) % 2305843009213693951 = ((b % P : Nat) : Int) := modP b
  obtain ⟨a', ha'⟩ : ∃ a', a % P = a' := ⟨_, rfl⟩
  obtain ⟨b', hb'⟩ : ∃ b', b % P = b' := ⟨_, rfl⟩
  rw [ha'] at m1 p1 HJ p4
  rw [hb'] at m2 p2 HJ
  clear ha' hb' hX hJ
  go_enter Try.func15, Try.ntmps15
  go_wp2_with (first
    | (go_at_call 30; (with_reducible refine HW.out.mono ?_); rintro e w1 ⟨rfl, rfl⟩)
    | (go_at_call 27; (with_reducible refine (rmul_walk a' X _ p1 (lt64 p3)).mono ?_); rintro e w1 ⟨rfl, rfl⟩)
    | (go_at_call 26; (with_reducible refine (radd_z (a' * X % P) b' _ _ _ (by first | rfl | simp) (by first | rfl | simp) p4 p2).mono ?_); rintro e w1 ⟨rfl, rfl⟩))
  go_ret
  rw [← HJ.out]
  exact ⟨rfl, rfl⟩
set_option maxRecDepth 20000 in
theorem rchain_walk (a : Nat) (s : ByteArray) (w : World) (hs : s.size ≤ 900000) : Calls Try.prog 17 #[.int .u64 (a : Int), .string s] w (U64End (ch a s.data.toList) w) := by
  have B0 := Below.refl w.heap.size w
  have hd : (⟨#[10]⟩ ++ s : ByteArray).data.toList = 10 :: s.data.toList := by rw [data_app]; rfl
  have hz : (⟨#[10]⟩ ++ s : ByteArray).size ≤ 1000000 := by
    rw [ByteArray.size_append]
    have : (⟨#[10]⟩ : ByteArray).size = 1 := rfl
    omega
  have HO := Lib.hid (fun w => rof_walk (⟨#[10]⟩ ++ s) w hz)
  rw [hd] at HO
  obtain ⟨D, hD⟩ : ∃ D, dg (10 :: s.data.toList) = D := ⟨_, rfl⟩
  have hC : Hid (jn a (s.size + 1) D = ch a s.data.toList) := by
    show _ = _
    unfold ch
    rw [data_len, hD]
  rw [hD] at HO
  clear hD hd hz
  go_enter Try.func17, Try.ntmps17
  go_wp2_with (first
    | (go_at_call 13; (with_reducible refine (HO.out _).mono ?_); rintro e w1 ⟨rfl, bb⟩; have B0 := B0.trans (bb.mono B0.size))
    | (go_at_call 15; (with_reducible refine (rjoin_walk a D _ _ (by omega) (by omega)).mono ?_); rintro e w2 ⟨rfl, rfl⟩))
  go_ret
  rw [← hC.out]
  exact ⟨rfl, B0⟩
end Go.Proofs.Ytlinmhmhgnhmeaa
