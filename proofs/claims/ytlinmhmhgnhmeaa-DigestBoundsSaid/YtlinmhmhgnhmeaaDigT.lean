/-
  The walk of the reference's Parse.
-/
import Derived.Test.YtlinmhmhgnhmeaaDigS
namespace Go.Proofs.Ytlinmhmhgnhmeaa
open Go.RowKit Dig
set_option linter.unusedVariables false
/-- Between the rounds of Parse. -/
def PxA (s : List UInt8) (i o : Nat) : Prop := o = vx 0 (s.take i) ∧ ∀ c ∈ s.take i, isX c = true
theorem px_len {s : List UInt8} (h : ¬ s.length = 16) : px s = .error 2 := by
  unfold px
  exact if_neg (fun hh => h hh.1)
theorem px_not {s : List UInt8} {c : UInt8} {i : Nat} (h : s[i]? = some c) (hc : isX c = false) : px s = .error 2 := by
  unfold px
  exact if_neg (fun hh => by have := hh.2 c (List.mem_of_getElem? h); rw [hc] at this; cases this)
theorem PxA.start (s : List UInt8) : PxA s 0 0 := ⟨by rw [List.take_zero]; rfl, by rw [List.take_zero]; simp⟩
theorem PxA.step {s : List UInt8} {i o : Nat} {c : UInt8} (h : PxA s i o) (hi : s[i]? = some c) (hc : isX c = true) : PxA s (i + 1) (16 * o + vl c) := by
  obtain ⟨h1, h2⟩ := h
  refine ⟨?_, fun x hx => ?_⟩
  · rw [List.take_add_one, hi]
    show _ = vx 0 (s.take i ++ [c])
    rw [vx_snoc, ← h1]
  · rw [List.take_add_one, hi] at hx
    rcases List.mem_append.1 hx with h | h
    · exact h2 x h
    · rw [List.mem_singleton.1 h]; exact hc
theorem PxA.bound {s : List UInt8} {i o : Nat} (h : PxA s i o) (hi : i ≤ 15) : o < 1152921504606846976 := by
  have h1 := vx_bound (s.take i) 0 h.2
  rw [← h.1, Nat.zero_add, Nat.one_mul] at h1
  refine Nat.lt_of_lt_of_le h1 ?_
  rw [show (1152921504606846976 : Nat) = 16 ^ 15 by decide]
  exact Nat.pow_le_pow_right (by omega) (by rw [List.length_take]; omega)
theorem PxA.ok {s : List UInt8} {o : Nat} (h : PxA s 16 o) (hl : s.length = 16) : px s = if o < P then .ok o else .error 3 := by
  obtain ⟨h1, h2⟩ := h
  rw [List.take_of_length_le (by omega)] at h1 h2
  unfold px
  rw [if_pos ⟨hl, h2⟩, h1]
theorem byte_digit (c : UInt8) (h1 : 48 ≤ c.toNat) (h2 : c.toNat ≤ 57) : isX c = true ∧ vl c = c.toNat - 48 := ⟨(isX_iff c).2 (.inl ⟨h1, h2⟩), by unfold vl; rw [if_pos h2]⟩
theorem byte_letter (c : UInt8) (h1 : 97 ≤ c.toNat) (h2 : c.toNat ≤ 102) : isX c = true ∧ vl c = c.toNat - 87 := ⟨(isX_iff c).2 (.inr ⟨h1, h2⟩), by unfold vl; rw [if_neg (by omega)]⟩
theorem byte_no (c : UInt8) (h : ¬ (48 ≤ c.toNat ∧ c.toNat ≤ 57)) (h2 : ¬ (97 ≤ c.toNat ∧ c.toNat ≤ 102)) : isX c = false := by
  cases hx : isX c with
  | false => rfl
  | true => rcases (isX_iff c).1 hx with h' | h' <;> contradiction
theorem w64 (x : Int) : IntKind.u64.wrap x = x % 18446744073709551616 := by simp [IntKind.wrap, IntKind.bits, IntKind.signed]
theorem wrap_digit (o c : Nat) (ho : o < 1152921504606846976) (h1 : 48 ≤ c) (h2 : c ≤ 57) : IntKind.u64.wrap (IntKind.u64.wrap (16 * (o : Int) + (c : Int)) - 48) = ((16 * o + (c - 48) : Nat) : Int) := by
  rw [w64, w64]
  omega
theorem wrap_letter (o c : Nat) (ho : o < 1152921504606846976) (h1 : 97 ≤ c) (h2 : c ≤ 102) : IntKind.u64.wrap (IntKind.u64.wrap (IntKind.u64.wrap (16 * (o : Int) + (c : Int)) - 97) + 10) = ((16 * o + (c - 87) : Nat) : Int) := by
  rw [w64, w64, w64]
  omega
theorem ParEnd.err {R : Except Nat Nat} {x : Nat} {w w' : World} (h : R = .error x) (hB : Below w.heap.size w w') : ParEnd R w (.returned (.tuple #[.int .u64 0, .int .i64 (x : Int)])) w' := by
  subst h
  exact ⟨0, x, rfl, hB, rfl, rfl⟩
set_option maxRecDepth 20000 in
set_option maxHeartbeats 1000000 in
theorem rparse_walk (s : ByteArray) (w : World) (hs : s.size ≤ 1000000) : Calls Try.prog 22 #[.string s] w (ParEnd (px s.data.toList) w) := by
  have B0 := Below.refl w.heap.size w
  have hlen := data_len s
  by_cases h16 : s.size = 16
  · have hA := Lib.hid (PxA.start s.data.toList)
    have h16b : ((s.size : Int) != 16) = false := by rw [h16]; rfl
    have Hl := Lib.hid (hlen.trans h16)
    have hsz : s.size ≤ 16 := by omega
    have hsz2 : 16 ≤ s.size := by omega
    clear h16 hlen hs
    go_enter Try.func22, Try.ntmps22
    go_wp2
    go_loopw [4, 5] (fun x y wr => ∃ i o : Nat, i ≤ 16 ∧ y = .int .i64 (i : Int) ∧ x = .int .u64 (o : Int) ∧ o < 18446744073709551616 ∧ Hid (PxA s.data.toList i o) ∧ w = wr) (fun _ y _ => 16 - (intOf y).toNat)
    case atStart => exact ⟨0, 0, by omega, rfl, rfl, by omega, hA, rfl⟩
    case round =>
      clear hA
      obtain ⟨i, o, hi, rfl, rfl, ho, hA, rfl⟩ := hrel
      by_cases hlt : i < s.size
      · have hb := byte_L s i hlt
        have hob := hA.out.bound (by omega)
        have i1 : (0 : Int) ≤ (i : Int) := by omega
        by_cases d1 : (s[i].toNat : Int) < 48
        · have hT := Lib.hid (px_not hb (byte_no s[i] (by omega) (by omega)))
          clear hb
          go_wp2
          go_ret2
          exact ParEnd.err hT.out B0
        · by_cases d2 : (57 : Int) < (s[i].toNat : Int)
          · by_cases l1 : (s[i].toNat : Int) < 97
            · have hT := Lib.hid (px_not hb (byte_no s[i] (by omega) (by omega)))
              clear hb
              go_wp2
              go_ret2
              exact ParEnd.err hT.out B0
            · by_cases l2 : (102 : Int) < (s[i].toNat : Int)
              · have hT := Lib.hid (px_not hb (byte_no s[i] (by omega) (by omega)))
                clear hb
                go_wp2
                go_ret2
                exact ParEnd.err hT.out B0
              · have hx := byte_letter s[i] (by omega) (by omega)
                have hS := hA.out.step hb hx.1
                rw [hx.2] at hS
                have hS := Lib.hid hS
                clear hb hx
                have hw := wrap_letter o s[i].toNat hob (by omega) (by omega)
                go_wp2
                go_roundw
                case rel => exact ⟨i + 1, 16 * o + (s[i].toNat - 87), by omega, by go_num, by go_num, by omega, hS, by first | trivial | rfl⟩
                case measure => simp [intOf]; omega
          · have hx := byte_digit s[i] (by omega) (by omega)
            have hS := hA.out.step hb hx.1
            rw [hx.2] at hS
            have hS := Lib.hid hS
            clear hb hx
            have hw := wrap_digit o s[i].toNat hob (by omega) (by omega)
            go_wp2
            go_roundw
            case rel => exact ⟨i + 1, 16 * o + (s[i].toNat - 48), by omega, by go_num, by go_num, by omega, hS, by first | trivial | rfl⟩
            case measure => simp [intOf]; omega
      · obtain rfl : i = 16 := by omega
        have hE := hA.out.ok Hl.out
        by_cases hP : o < 2305843009213693951
        · have hT := Lib.hid (hE.trans (if_pos (by rw [P_eq]; exact hP)))
          have hPb : decide ((2305843009213693951 : Int) ≤ (o : Int)) = false := decide_eq_false (by omega)
          clear hE hP ho
          go_wp2
          go_ret2
          rw [hT.out]
          exact ⟨o, 0, rfl, B0, rfl, rfl⟩
        · have hT := Lib.hid (hE.trans (if_neg (by rw [P_eq]; exact hP)))
          have hPb : decide ((2305843009213693951 : Int) ≤ (o : Int)) = true := decide_eq_true (by omega)
          clear hE hP ho
          go_wp2
          go_ret2
          exact ParEnd.err hT.out B0
  · have hT := Lib.hid (px_len (s := s.data.toList) (by omega))
    have h16b : ((s.size : Int) != 16) = true := by simp; omega
    clear h16 hlen
    go_enter Try.func22, Try.ntmps22
    go_wp2
    go_ret2
    exact ParEnd.err hT.out B0
end Go.Proofs.Ytlinmhmhgnhmeaa
