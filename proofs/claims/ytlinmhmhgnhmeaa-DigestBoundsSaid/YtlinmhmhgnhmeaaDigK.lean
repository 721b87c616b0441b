/-
  The walk of the landed Parse; with DigU, DigV and DigW all contracts of the landed digest.
-/
import Derived.Test.YtlinmhmhgnhmeaaDigW
import Derived.Lib.IndexBytes
import Derived.Lib.IndexLaws
namespace Go.Proofs.Ytlinmhmhgnhmeaa
open Go.RowKit Dig
set_option linter.unusedVariables false
theorem digits_list : digits.data.toList = [48, 49, 50, 51, 52, 53, 54, 55, 56, 57, 97, 98, 99, 100, 101, 102] := rfl
theorem index_digit : ∀ c : UInt8, Lib.indexByte [48, 49, 50, 51, 52, 53, 54, 55, 56, 57, 97, 98, 99, 100, 101, 102] c = if isX c = true then (vl c : Int) else -1 := by
  have h : ∀ k : Fin 256, Lib.indexByte [48, 49, 50, 51, 52, 53, 54, 55, 56, 57, 97, 98, 99, 100, 101, 102] (UInt8.ofNat k.val) = if isX (UInt8.ofNat k.val) = true then (vl (UInt8.ofNat k.val) : Int) else -1 := by decide +kernel
  intro c
  have h2 := h ⟨c.toNat, c.toNat_lt⟩
  rwa [UInt8.ofNat_toNat] at h2
theorem back_8 (c : UInt8) : ((c.toNat : Int)).toNat.toUInt8 = c := by simp
theorem index_yes (c : UInt8) (h : isX c = true) (w : World) : Calls Try.prog 31 #[.string ⟨#[48, 49, 50, 51, 52, 53, 54, 55, 56, 57, 97, 98, 99, 100, 101, 102]⟩, .int .u8 (c.toNat : Int)] w fun e w' => e = .returned (.int .i64 (vl c : Int)) ∧ w' = w := by
  have hc := Try.strings_IndexByte digits (c.toNat : Int) w
  rw [digits_list, back_8, index_digit, if_pos h] at hc
  exact hc
theorem index_not (c : UInt8) (h : isX c = false) (w : World) : Calls Try.prog 31 #[.string ⟨#[48, 49, 50, 51, 52, 53, 54, 55, 56, 57, 97, 98, 99, 100, 101, 102]⟩, .int .u8 (c.toNat : Int)] w fun e w' => e = .returned (.int .i64 (-1)) ∧ w' = w := by
  have hc := Try.strings_IndexByte digits (c.toNat : Int) w
  rw [digits_list, back_8, index_digit, if_neg (by rw [h]; simp)] at hc
  exact hc
theorem or_16 (o c : Nat) (hc : c < 16) : o * 16 ||| c = o * 16 + c := by
  have h := Nat.two_pow_add_eq_or_of_lt (i := 4) (b := c) (by omega) o
  rw [show 2 ^ 4 * o = o * 16 by omega] at h
  exact h.symm
theorem or_val (o c : Nat) (ho : o < 1152921504606846976) (hc : c < 16) : bits .or .u64 ((o : Int) * 16) (c : Int) = ((16 * o + c : Nat) : Int) := by
  have h1 := bits_or_u64_nat (o * 16) c (by omega) (by omega)
  rw [or_16 o c hc] at h1
  rw [show ((o * 16 : Nat) : Int) = (o : Int) * 16 by omega] at h1
  rw [h1, Nat.mul_comm]
set_option maxRecDepth 20000 in
set_option maxHeartbeats 1000000 in
theorem parse_c (s : ByteArray) (w : World) (ht : Dt w) (hs : s.size ≤ 1000000) : Calls Try.prog 21 #[.string s] w (ParEnd (px s.data.toList) w) := by
  have B0 := Below.refl w.heap.size w
  have hlen := data_len s
  by_cases h16 : s.size = 16
  · have hA := Lib.hid (PxA.start s.data.toList)
    have h16b : ((s.size : Int) != 16) = false := by rw [h16]; rfl
    have Hl := Lib.hid (hlen.trans h16)
    have hsz : s.size ≤ 16 := by omega
    have hsz2 : 16 ≤ s.size := by omega
    clear h16 hlen hs
    go_enter Try.func21, Try.ntmps21
    go_wp2
    go_loopw [4, 12] (fun x y wr => ∃ i o : Nat, i ≤ 16 ∧ y = .int .i64 (i : Int) ∧ x = .int .u64 (o : Int) ∧ o < 18446744073709551616 ∧ Hid (PxA s.data.toList i o) ∧ w = wr) (fun _ y _ => 16 - (intOf y).toNat)
    case atStart => exact ⟨0, 0, by omega, rfl, rfl, by omega, hA, rfl⟩
    case round =>
      clear hA
      obtain ⟨i, o, hi, rfl, rfl, ho, hA, rfl⟩ := hrel
      by_cases hlt : i < s.size
      · have hb := byte_L s i hlt
        have hob := hA.out.bound (by omega)
        have i1 : (0 : Int) ≤ (i : Int) := by omega
        cases hx : isX s[i] with
        | true =>
          have hS := hA.out.step hb hx
          have hv := vl_lt s[i] hx
          obtain ⟨k, hk⟩ : ∃ k, vl s[i] = k := ⟨_, rfl⟩
          have HI := Lib.hid (index_yes s[i] hx)
          rw [hk] at hS hv HI
          have hS := Lib.hid hS
          have HV := Lib.hid (or_val o k hob hv)
          clear hb hx hk
          have k0 : ((k : Int) < 0) = False := eq_false (by omega)
          go_wp2_with (go_at_call 31; (with_reducible refine (HI.out _).mono ?_); rintro e w1 ⟨rfl, hw⟩; obtain rfl := hw)
          go_roundw
          case rel => exact ⟨i + 1, 16 * o + k, by omega, by go_num, congrArg (fun z => Value.int .u64 z) HV.out, by omega, hS, by first | trivial | rfl⟩
          case measure => simp [intOf]; omega
        | false =>
          have hT := Lib.hid (px_not hb hx)
          have HI := Lib.hid (index_not s[i] hx)
          clear hb hx
          go_wp2_with (go_at_call 31; (with_reducible refine (HI.out _).mono ?_); rintro e w1 ⟨rfl, hw⟩; obtain rfl := hw)
          go_ret2
          exact ParEnd.err hT.out B0
      · obtain rfl : i = 16 := by omega
        have hE := hA.out.ok Hl.out
        by_cases hP : o < 2305843009213693951
        · have hT := Lib.hid (hE.trans (if_pos (by rw [P_eq]; exact hP)))
          have hPb : decide ((2305843009213693951 : Int) ≤ (o : Int)) = false := decide_eq_false (by omega)
          clear hE hP ho
          go_wp2
          go_ret2
          rw [hT.out]
          exact ⟨o, 0, rfl, B0, rfl, rfl⟩
        · have hT := Lib.hid (hE.trans (if_neg (by rw [P_eq]; exact hP)))
          have hPb : decide ((2305843009213693951 : Int) ≤ (o : Int)) = true := decide_eq_true (by omega)
          clear hE hP ho
          go_wp2
          go_ret2
          exact ParEnd.err hT.out B0
  · have hT := Lib.hid (px_len (s := s.data.toList) (by omega))
    have h16b : ((s.size : Int) != 16) = true := by simp; omega
    clear h16 hlen
    go_enter Try.func21, Try.ntmps21
    go_wp2
    go_ret2
    exact ParEnd.err hT.out B0
end Go.Proofs.Ytlinmhmhgnhmeaa
