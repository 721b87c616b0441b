/-
  The walk of natural.guessDigit.
-/
import Derived.Test.YthcoemkbdllcfaaDoorDivB
import Derived.Test.YthcoemkbdllcfaaDoorGuessNum
namespace Go.Proofs.YthcoemkbdllcfaaDoor
open Go.RowKit

/-- guessDigit returns the quotient, or one more. -/
def GuessEnd (V D : Nat) (w : World) (e : Ending) (w' : World) : Prop := ∃ dg : Nat, e = .returned (.int .u32 (dg : Int)) ∧ dg < 4294967296 ∧ V / D ≤ dg ∧ dg ≤ V / D + 1 ∧ ∃ q, w' = w.drewN q
theorem ret_u32 {a b : Int} (h : a = b) : Ending.returned (.int .u32 a) = .returned (.int .u32 b) := by rw [h]
theorem div_word (T h : Nat) (hT : T < 18446744073709551616) : IntKind.u64.wrap ((T : Int) / (h : Int)) = ((T / h : Nat) : Int) := by
  have h1 : T / h ≤ T := Nat.div_le_self T h
  have e : (T : Int) / (h : Int) = ((T / h : Nat) : Int) := by simp
  rw [e, IntKind.wrap_u64]
  generalize T / h = q at h1 ⊢
  omega
theorem or_word2 (a x : Nat) (ha : a < 4294967296) (hx : x < 4294967296) : bits .or .u64 ((a : Int) * 4294967296) (x : Int) = ((a * 4294967296 + x : Nat) : Int) := by
  rw [or_word a x ha hx]; simp
theorem drew3 (w : World) (a b c : Nat) : ∃ q, ((w.drewN a).drewN b).drewN c = w.drewN q := ⟨a + b + c, by simp only [World.drewN_drewN]⟩

set_option maxHeartbeats 2000000 in
theorem guessDigit_walk (ga gb oa ob n c d : Nat) (l lb : List Nat) (w : World) (hl : l.length = n + 3) (hlb : lb.length = n + 2) (hA : CelAt w ga oa l) (hB : CelAt w gb ob lb) (hn : n ≤ 1000000000) (hL : Num.Lim l) (hLb : Num.Lim lb)
    (htop : ∃ h, lb[n + 1]? = some h ∧ 2147483648 ≤ h) (hVD : Num.val l < Num.K * Num.val lb) :
    Calls Tryd.prog 85 #[.slice (some ⟨ga, oa, none⟩) (n + 3) c, .slice (some ⟨gb, ob, none⟩) (n + 2) d] w (GuessEnd (Num.val l) (Num.val lb) w) := by
  obtain ⟨h, hh, hhb⟩ := htop
  obtain ⟨s, hs⟩ : ∃ x, lb[n]? = some x := ⟨_, List.getElem?_eq_getElem (by omega)⟩
  obtain ⟨p0, hp0⟩ : ∃ x, l[n + 2]? = some x := ⟨_, List.getElem?_eq_getElem (by omega)⟩
  obtain ⟨p1, hp1⟩ : ∃ x, l[n + 1]? = some x := ⟨_, List.getElem?_eq_getElem (by omega)⟩
  obtain ⟨p2, hp2⟩ : ∃ x, l[n]? = some x := ⟨_, List.getElem?_eq_getElem (by omega)⟩
  have AT := Lib.hid (Guess.At.of lb l n s h p2 p1 p0 hlb hl hLb hL hs hh hp2 hp1 hp0 (by omega) hVD)
  have bh : h < 4294967296 := hLb.at hh
  have bs : s < 4294967296 := hLb.at hs
  have b0 : p0 < 4294967296 := hL.at hp0
  have b1 : p1 < 4294967296 := hL.at hp1
  have b2 : p2 < 4294967296 := hL.at hp2
  have ch := hB _ _ hh
  have cs := hB _ _ hs
  have c0 := hA _ _ hp0
  have c1 := hA _ _ hp1
  have c2 := hA _ _ hp2
  obtain ⟨V, hV⟩ : ∃ V, V = Num.val l := ⟨_, rfl⟩
  obtain ⟨D, hD⟩ : ∃ D, D = Num.val lb := ⟨_, rfl⟩
  rw [← hV, ← hD] at AT
  rw [← hV, ← hD]
  obtain ⟨T, hT⟩ : ∃ T, T = p0 * Num.K + p1 := ⟨_, rfl⟩
  rw [← hT] at AT
  have hor1 : bits .or .u64 ((p0 : Int) * 4294967296) (p1 : Int) = (T : Int) := by rw [or_word p0 p1 b0 b1, hT, Num.K_eq]; simp
  have hTb : T < 18446744073709551616 := by rw [hT, Num.K_eq]; omega
  have hi1 : ((n + 2 : Nat) : Int) - 1 = ((n + 1 : Nat) : Int) := by omega
  have hi2 : ((n + 2 : Nat) : Int) - 2 = ((n : Nat) : Int) := by omega
  clear hl hlb hA hB hL hLb hVD hh hs hp0 hp1 hp2 hV hD hT
  have hi1' := Lib.hid hi1
  have hi2' := Lib.hid hi2
  clear hi1 hi2
  go_enter Tryd.func85, Tryd.ntmps85
  go_wp2
  go_quiet (fail)
  go_wp2
  go_quiet (fail)
  go_wp2
  go_quiet (fail)
  go_wp2
  go_loopw [9, 10] (fun x y wr => ∃ dg r : Nat, x = .int .u64 dg ∧ y = .int .u64 r ∧ r < 4294967296 ∧ dg < 18446744073709551616 ∧ Hid (dg * h + r = T) ∧ Hid (V / D ≤ dg) ∧ ∃ q, wr = w.drewN q) (fun x _ _ => (intOf x).toNat)
  case atStart => exact ⟨T / h, T % h, int_u64 (div_word T h hTb), int_u64 (by simp), Nat.lt_trans (Nat.mod_lt _ (by omega)) bh, Nat.lt_of_le_of_lt (Nat.div_le_self T h) hTb, Nat.div_add_mod' T h, AT.out.start, drew3 _ _ _ _⟩
  case round =>
    obtain ⟨dg, r, rfl, rfl, hr, hdb, He, Hq, q, rfl⟩ := hrel
    have hor2 := or_word2 r p2 hr b2
    obtain ⟨M, hM⟩ : ∃ M, M = r * 4294967296 + p2 := ⟨_, rfl⟩
    rw [← hM] at hor2
    have HM := Lib.hid hM
    have hMb : M < 18446744073709551616 := by omega
    clear hM
    by_cases hbig : 4294967296 ≤ dg
    · have t1 : ((dg : Int) / 4294967296 != 0) = true := by simp; omega
      have hd1 : 1 ≤ dg := by omega
      have Hlow : Hid (V / D ≤ dg - 1) := AT.out.big (by rw [Num.K_eq]; exact hbig)
      have He2 : Hid ((dg - 1) * h + (r + h) = T) := by
        show _ = _
        have := He.out
        rw [Nat.sub_mul, Nat.one_mul]
        have : h ≤ dg * h := Nat.le_mul_of_pos_left h (by omega)
        omega
      by_cases hbrk : 4294967296 ≤ r + h
      · have t3 : (((r : Int) + (h : Int)) / 4294967296 != 0) = true := by simp; omega
        go_wp2
        go_ret
        have hb := AT.out.brk He2.out (by rw [Num.K_eq]; exact hbrk)
        have hu := AT.out.upper He2.out hb.1 hb.2
        have hb1 := hb.1
        rw [Num.K_eq] at hb1
        exact ⟨dg - 1, ret_u32 (by omega), hb1, Hlow.out, hu, q, rfl⟩
      · have t3 : (((r : Int) + (h : Int)) / 4294967296 != 0) = false := by simp; omega
        go_wp2
        go_roundw
        case rel => exact ⟨dg - 1, r + h, int_u64 (by omega), int_u64 (by omega), by omega, by omega, He2, Hlow, q, rfl⟩
        case measure => simp [intOf] <;> omega
    · have t1 : ((dg : Int) / 4294967296 != 0) = false := by simp; omega
      have hdl : dg < 4294967296 := by omega
      have hp0 : (0 : Int) ≤ (dg : Int) * (s : Int) := Int.mul_nonneg (by omega) (by omega)
      have hp1 : (dg : Int) * (s : Int) ≤ 18446744065119617025 := by have := mul_bound dg s hdl bs; rw [← Int.natCast_mul]; omega
      have HP := Lib.hid (Int.natCast_mul dg s)
      clear hbig
      by_cases hless : (M : Int) < (dg : Int) * (s : Int)
      · have hlessN : M < dg * s := by have := HP.out; omega
        have hd1 : 1 ≤ dg := by
          rcases Nat.eq_zero_or_pos dg with h0 | h0
          · rw [h0] at hlessN; omega
          · exact h0
        have Hlow : Hid (V / D ≤ dg - 1) := AT.out.less He.out (by rw [Num.K_eq]; have := HM.out; omega)
        have He2 : Hid ((dg - 1) * h + (r + h) = T) := by
          show _ = _
          have := He.out
          rw [Nat.sub_mul, Nat.one_mul]
          have : h ≤ dg * h := Nat.le_mul_of_pos_left h (by omega)
          omega
        clear hlessN
        by_cases hbrk : 4294967296 ≤ r + h
        · have t3 : (((r : Int) + (h : Int)) / 4294967296 != 0) = true := by simp; omega
          go_wp2
          go_ret
          have hb := AT.out.brk He2.out (by rw [Num.K_eq]; exact hbrk)
          have hu := AT.out.upper He2.out hb.1 hb.2
          have hb1 := hb.1
          rw [Num.K_eq] at hb1
          exact ⟨dg - 1, ret_u32 (by omega), hb1, Hlow.out, hu, q, rfl⟩
        · have t3 : (((r : Int) + (h : Int)) / 4294967296 != 0) = false := by simp; omega
          go_wp2
          go_roundw
          case rel => exact ⟨dg - 1, r + h, int_u64 (by omega), int_u64 (by omega), by omega, by omega, He2, Hlow, q, rfl⟩
          case measure => simp [intOf] <;> omega
      · have hge : (dg : Int) * (s : Int) ≤ (M : Int) := by omega
        go_wp2
        go_ret
        have hu := AT.out.upper He.out (by rw [Num.K_eq]; exact hdl) (by rw [Num.K_eq]; have := HP.out; have := HM.out; omega)
        exact ⟨dg, ret_u32 (by omega), hdl, Hq.out, hu, q, rfl⟩
end Go.Proofs.YthcoemkbdllcfaaDoor
