/-
  The walk of garmentref01.Digits.
-/
import Derived.Test.YthcoemkbdllcfaaDoorRefI
namespace Go.Proofs.YthcoemkbdllcfaaDoor
open Go.RowKit

theorem data_len (s : ByteArray) : s.data.toList.length = s.size := by simp
theorem data_ne {s : ByteArray} (h : 0 < s.size) : s.data.toList ≠ [] := by
  intro e
  have h1 := data_len s
  rw [e, List.length_nil] at h1
  omega
set_option maxRecDepth 4000 in
set_option maxHeartbeats 2000000 in
theorem rdigits_walk (s : ByteArray) (w : World) (hs : s.size ≤ 1000000) :
    Calls Tryd.prog 76 #[.string s] w (NumlEnd s.data.toList w) := by
  go_enter Tryd.func76, Tryd.ntmps76
  go_wp2
  go_loop [3] (fun i => ∃ k : Nat, k ≤ s.size ∧ i = .int .i64 k ∧ Hid (∀ (j : Nat) (c : UInt8), j < k → s.data.toList[j]? = some c → dgt c = true)) (fun i => s.size - (intOf i).toNat)
  case atStart => exact ⟨0, Nat.zero_le _, rfl, fun j c h => by omega⟩
  case round =>
    obtain ⟨k, hk, rfl, Ha⟩ := hrel
    by_cases hlt : k < s.size
    · have HB := Lib.hid (byte_at s k hlt)
      by_cases hd1 : (s[k].toNat : Int) < 48
      · go_wp2
        go_ret
        have := isNum_bad HB.out (dgt_lo _ hd1)
        unfold NumlEnd
        rw [this]
        exact ⟨rfl, rfl⟩
      · by_cases hd2 : (57 : Int) < (s[k].toNat : Int)
        · go_wp2
          go_ret
          have := isNum_bad HB.out (dgt_hi _ hd2)
          unfold NumlEnd
          rw [this]
          exact ⟨rfl, rfl⟩
        · have Hd : Hid (dgt s[k] = true) := dgt_of _ (by omega) (by omega)
          go_wp2
          go_round
          case rel =>
            refine ⟨k + 1, by omega, by go_num, fun j c hj hjc => ?_⟩
            rcases Nat.lt_or_ge j k with h | h
            · exact Ha.out j c h hjc
            · obtain rfl : j = k := by omega
              have h5 := HB.out
              rw [h5] at hjc
              injection hjc with e
              rw [← e]
              exact Hd.out
          case measure => simp [intOf] <;> omega
    · have Hall : Hid (∀ (j : Nat) (c : UInt8), s.data.toList[j]? = some c → dgt c = true) := fun j c hjc => Ha.out j c (by have := (List.getElem?_eq_some_iff.1 hjc).1; simp at this; omega) hjc
      rcases Nat.lt_trichotomy s.size 1 with h1 | h1 | h1
      · have e1 : ((s.size : Int) == 1) = false := by simp; omega
        have Hn : Hid (isNum s.data.toList = false) := by
          show _ = _
          rw [List.eq_nil_of_length_eq_zero (l := s.data.toList) (by rw [data_len]; omega)]
          rfl
        go_wp2
        go_ret
        unfold NumlEnd
        rw [Hn.out]
        exact ⟨rfl, rfl⟩
      · have e1 : ((s.size : Int) == 1) = true := by rw [h1]; rfl
        have Hn : Hid (isNum s.data.toList = true) := isNum_ok (data_ne (by omega)) (by rintro ⟨_, h⟩; rw [data_len] at h; omega) Hall.out
        go_wp2
        go_ret
        unfold NumlEnd
        rw [Hn.out]
        exact ⟨rfl, rfl⟩
      · have e1 : ((s.size : Int) == 1) = false := by simp; omega
        have HB := Lib.hid (byte_at s 0 (by omega))
        by_cases h2 : (s[0].toNat : Int) = 48
        · have Hn : Hid (isNum s.data.toList = false) := by
            refine isNum_lead ?_ (by simpa using h1)
            rw [HB.out]
            congr 1
            exact UInt8.toNat_inj.1 (by show s[0].toNat = 48; omega)
          have e2 : ((s[0].toNat : Int) == 48) = true := by simpa using h2
          go_wp2
          go_ret
          unfold NumlEnd
          rw [Hn.out]
          exact ⟨rfl, rfl⟩
        · have Hn : Hid (isNum s.data.toList = true) := by
            refine isNum_ok (data_ne (by omega)) ?_ Hall.out
            rintro ⟨h3, _⟩
            rw [HB.out] at h3
            injection h3 with h3
            exact h2 (by rw [h3]; rfl)
          have e2 : ((s[0].toNat : Int) != 48) = true := by simpa using h2
          go_wp2
          go_ret
          unfold NumlEnd
          rw [Hn.out]
          exact ⟨rfl, rfl⟩
end Go.Proofs.YthcoemkbdllcfaaDoor
