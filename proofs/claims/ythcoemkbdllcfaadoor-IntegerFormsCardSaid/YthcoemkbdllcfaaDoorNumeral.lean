/-
  The walks of natural.isNumeral and Parse.
-/
import Derived.Test.YthcoemkbdllcfaaDoorParse
import Derived.Lib.Strings
namespace Go.Proofs.YthcoemkbdllcfaaDoor
open Go.RowKit

def dgt (c : UInt8) : Bool := 48 ≤ c && c ≤ 57
theorem dgt_of (c : UInt8) (h1 : (48 : Int) ≤ (c.toNat : Int)) (h2 : (c.toNat : Int) ≤ 57) : dgt c = true := by
  simp [dgt, UInt8.le_iff_toNat_le]; omega
theorem dgt_lo (c : UInt8) (h1 : (c.toNat : Int) < 48) : dgt c = false := by
  rw [Bool.eq_false_iff]; simp [dgt, UInt8.le_iff_toNat_le]; omega
theorem dgt_hi (c : UInt8) (h1 : (57 : Int) < (c.toNat : Int)) : dgt c = false := by
  rw [Bool.eq_false_iff]; simp [dgt, UInt8.le_iff_toNat_le]; omega
/-- A number in decimal notation, without leading zeros. -/
def isNum (l : List UInt8) : Bool := !l.isEmpty && !(l.head? == some 48 && decide (1 < l.length)) && l.all dgt
theorem isNum_empty : isNum [] = false := rfl
theorem isNum_lead {l : List UInt8} (h : l[0]? = some 48) (h1 : 1 < l.length) : isNum l = false := by
  unfold isNum
  rw [List.head?_eq_getElem?, h]
  simp [h1]
theorem isNum_bad {l : List UInt8} {k : Nat} {c : UInt8} (h : l[k]? = some c) (hc : dgt c = false) : isNum l = false := by
  unfold isNum
  have : l.all dgt = false := by
    rw [List.all_eq_false]
    exact ⟨c, List.mem_of_getElem? h, by simp [hc]⟩
  simp [this]
theorem isNum_ok {l : List UInt8} (h : l ≠ []) (h1 : ¬ (l[0]? = some 48 ∧ 1 < l.length)) (h2 : ∀ (j : Nat) (c : UInt8), l[j]? = some c → dgt c = true) : isNum l = true := by
  unfold isNum
  have e1 : l.isEmpty = false := by cases l <;> simp_all
  have e2 : l.all dgt = true := by
    rw [List.all_eq_true]
    intro c hc
    obtain ⟨j, hj⟩ := List.getElem?_of_mem hc
    exact h2 j c hj
  rw [e1, e2, List.head?_eq_getElem?]
  by_cases h3 : l[0]? = some 48
  · have : ¬ 1 < l.length := fun h4 => h1 ⟨h3, h4⟩
    simp [this]
  · have : (l[0]? == some 48) = false := by simpa using h3
    simp [this]

theorem byte_at (s : ByteArray) (k : Nat) (h : k < s.size) : s.data.toList[k]? = some s[k] := by
  rw [List.getElem?_eq_getElem (by simpa using h)]; rfl
def NumlEnd (l : List UInt8) (w : World) (e : Ending) (w' : World) : Prop := e = .returned (.bool (isNum l)) ∧ w = w'

theorem not_nil (s : ByteArray) (h : 0 < s.size) : ¬ s.toList = [] := by
  rw [ByteArray.toList_eq]
  intro e
  have h1 : s.data.toList.length = 0 := by rw [e]; rfl
  simp at h1
  have h3 : s.size = 0 := by rw [← ByteArray.size_data, h1]; rfl
  omega
set_option maxRecDepth 4000 in
set_option maxHeartbeats 1000000 in
theorem isNumeral_loopA (s : ByteArray) (w : World) (hs : s.size ≤ 1000000) (hne : 0 < s.size) (hlead : Hid (¬ (s.data.toList[0]? = some 48 ∧ 1 < s.data.toList.length))) (h0 : ((s[0].toNat : Int) == 48) = false) :
    Calls Tryd.prog 74 #[.string s] w (NumlEnd s.data.toList w) := by
  have h1 : ¬ s.toList = [] := not_nil s hne
  have h2 : s.toList.isEmpty = false := by simpa using h1
  have Hne : Hid (s.data.toList ≠ []) := by rw [← ByteArray.toList_eq]; exact h1
  go_enter Tryd.func74, Tryd.ntmps74
  go_wp2
  go_loop [18] (fun i => ∃ k : Nat, k ≤ s.size ∧ i = .int .i64 k ∧ Hid (∀ (j : Nat) (c : UInt8), j < k → s.data.toList[j]? = some c → dgt c = true)) (fun i => s.size - (intOf i).toNat)
  case atStart => exact ⟨0, Nat.zero_le _, rfl, fun j c h => by omega⟩
  case round =>
    obtain ⟨k, hk, rfl, Ha⟩ := hrel
    by_cases hlt : k < s.size
    · have HB := Lib.hid (byte_at s k hlt)
      by_cases hd1 : (s[k].toNat : Int) < 48
      · go_wp2
        go_ret
        have := isNum_bad HB.out (dgt_lo _ hd1)
        unfold NumlEnd
        rw [this]
        exact ⟨rfl, rfl⟩
      · by_cases hd2 : (57 : Int) < (s[k].toNat : Int)
        · go_wp2
          go_ret
          have := isNum_bad HB.out (dgt_hi _ hd2)
          unfold NumlEnd
          rw [this]
          exact ⟨rfl, rfl⟩
        · have Hd : Hid (dgt s[k] = true) := dgt_of _ (by omega) (by omega)
          go_wp2
          go_round
          case rel =>
            refine ⟨k + 1, by omega, by go_num, fun j c hj hjc => ?_⟩
            rcases Nat.lt_or_ge j k with h | h
            · exact Ha.out j c h hjc
            · obtain rfl : j = k := by omega
              have h5 := HB.out
              rw [h5] at hjc
              injection hjc with e
              rw [← e]
              exact Hd.out
          case measure => simp [intOf] <;> omega
    · go_wp2
      go_ret
      have : isNum s.data.toList = true := isNum_ok Hne.out hlead.out (fun j c hjc => Ha.out j c (by have := (List.getElem?_eq_some_iff.1 hjc).1; simp at this; omega) hjc)
      unfold NumlEnd
      rw [this]
      exact ⟨rfl, rfl⟩
set_option maxRecDepth 4000 in
set_option maxHeartbeats 1000000 in
theorem isNumeral_loopB (s : ByteArray) (w : World) (hs : s.size ≤ 1000000) (hne : 0 < s.size) (hlead : Hid (¬ (s.data.toList[0]? = some 48 ∧ 1 < s.data.toList.length))) (h0 : ((s[0].toNat : Int) == 48) = true) (h9 : ¬ (1 : Int) < (s.size : Int)) :
    Calls Tryd.prog 74 #[.string s] w (NumlEnd s.data.toList w) := by
  have h1 : ¬ s.toList = [] := not_nil s hne
  have h2 : s.toList.isEmpty = false := by simpa using h1
  have Hne : Hid (s.data.toList ≠ []) := by rw [← ByteArray.toList_eq]; exact h1
  go_enter Tryd.func74, Tryd.ntmps74
  go_wp2
  go_loop [18] (fun i => ∃ k : Nat, k ≤ s.size ∧ i = .int .i64 k ∧ Hid (∀ (j : Nat) (c : UInt8), j < k → s.data.toList[j]? = some c → dgt c = true)) (fun i => s.size - (intOf i).toNat)
  case atStart => exact ⟨0, Nat.zero_le _, rfl, fun j c h => by omega⟩
  case round =>
    obtain ⟨k, hk, rfl, Ha⟩ := hrel
    by_cases hlt : k < s.size
    · have HB := Lib.hid (byte_at s k hlt)
      by_cases hd1 : (s[k].toNat : Int) < 48
      · go_wp2
        go_ret
        have := isNum_bad HB.out (dgt_lo _ hd1)
        unfold NumlEnd
        rw [this]
        exact ⟨rfl, rfl⟩
      · by_cases hd2 : (57 : Int) < (s[k].toNat : Int)
        · go_wp2
          go_ret
          have := isNum_bad HB.out (dgt_hi _ hd2)
          unfold NumlEnd
          rw [this]
          exact ⟨rfl, rfl⟩
        · have Hd : Hid (dgt s[k] = true) := dgt_of _ (by omega) (by omega)
          go_wp2
          go_round
          case rel =>
            refine ⟨k + 1, by omega, by go_num, fun j c hj hjc => ?_⟩
            rcases Nat.lt_or_ge j k with h | h
            · exact Ha.out j c h hjc
            · obtain rfl : j = k := by omega
              have h5 := HB.out
              rw [h5] at hjc
              injection hjc with e
              rw [← e]
              exact Hd.out
          case measure => simp [intOf] <;> omega
    · go_wp2
      go_ret
      have : isNum s.data.toList = true := isNum_ok Hne.out hlead.out (fun j c hjc => Ha.out j c (by have := (List.getElem?_eq_some_iff.1 hjc).1; simp at this; omega) hjc)
      unfold NumlEnd
      rw [this]
      exact ⟨rfl, rfl⟩
set_option maxRecDepth 4000 in
set_option maxHeartbeats 1000000 in
theorem isNumeral_walk (s : ByteArray) (w : World) (hs : s.size ≤ 1000000) :
    Calls Tryd.prog 74 #[.string s] w (NumlEnd s.data.toList w) := by
  by_cases h0 : s.size = 0
  · have hd : s.data.toList = [] := List.eq_nil_of_length_eq_zero (by simpa using h0)
    have hl : s.toList = [] := by rw [ByteArray.toList_eq]; exact hd
    have HD := Lib.hid hd
    clear hd
    go_enter Tryd.func74, Tryd.ntmps74
    go_wp2
    go_ret
    rw [HD.out]
    exact ⟨rfl, rfl⟩
  · by_cases h1 : (s[0].toNat : Int) = 48 ∧ 1 < s.size
    · obtain ⟨h1, h2⟩ := h1
      have hl : ¬ s.toList = [] := not_nil s (by omega)
      have hle : s.toList.isEmpty = false := by simpa using hl
      have h2' : (1 : Int) < (s.size : Int) := by omega
      have HB := Lib.hid (byte_at s 0 (by omega))
      have hb48 : ((s[0].toNat : Int) == 48) = true := by simpa using h1
      go_enter Tryd.func74, Tryd.ntmps74
      go_wp2
      go_ret
      have h48 : s.data.toList[0]? = some 48 := by
        rw [HB.out]
        congr 1
        exact UInt8.toNat_inj.1 (by show s[0].toNat = 48; omega)
      have := isNum_lead h48 (by simpa using h2)
      unfold NumlEnd
      rw [this]
      exact ⟨rfl, rfl⟩
    · have hlead : Hid (¬ (s.data.toList[0]? = some 48 ∧ 1 < s.data.toList.length)) := by
        rintro ⟨h2, h3⟩
        apply h1
        have hb := byte_at s 0 (by omega)
        rw [hb] at h2
        injection h2 with h2
        rw [h2]
        exact ⟨rfl, by simpa using h3⟩
      by_cases h2 : (s[0].toNat : Int) = 48
      · exact isNumeral_loopB s w hs (by omega) hlead (by simpa using h2) (fun h3 => h1 ⟨h2, by omega⟩)
      · exact isNumeral_loopA s w hs (by omega) hlead (by simpa using h2)

/-- The number with these digits. -/
def decVal (l : List UInt8) : Nat := l.foldl (fun a c => 10 * a + (c.toNat - 48)) 0
theorem decVal_snoc (l : List UInt8) (c : UInt8) : decVal (l ++ [c]) = 10 * decVal l + (c.toNat - 48) := by simp [decVal]
theorem decVal_take (l : List UInt8) (k : Nat) (c : UInt8) (h : l[k]? = some c) : decVal (l.take (k + 1)) = 10 * decVal (l.take k) + (c.toNat - 48) := by
  rw [List.take_add_one, h]
  exact decVal_snoc _ _
theorem isNum_dgt {l : List UInt8} (h : isNum l = true) {k : Nat} {c : UInt8} (hc : l[k]? = some c) : 48 ≤ c.toNat ∧ c.toNat ≤ 57 := by
  unfold isNum at h
  simp only [Bool.and_eq_true, List.all_eq_true] at h
  have h1 := h.2 c (List.mem_of_getElem? hc)
  simp [dgt, UInt8.le_iff_toNat_le] at h1
  exact ⟨by omega, by omega⟩

set_option maxRecDepth 4000 in
set_option maxHeartbeats 1000000 in
theorem parse_long (s : ByteArray) (w : World) (hs : s.size ≤ 1000000) (h : 200 < s.size) :
    Calls Tryd.prog 58 #[.string s] w fun e w' => e = .returned (.tuple #[.slice none 0 0, .int .i64 5]) ∧ w = w' := by
  go_enter Tryd.func58, Tryd.ntmps58
  go_wp2
  go_ret2
  exact ⟨rfl, rfl⟩
set_option maxRecDepth 4000 in
set_option maxHeartbeats 1000000 in
theorem parse_bad (s : ByteArray) (w : World) (h : s.size ≤ 200) (hn : isNum s.data.toList = false) :
    Calls Tryd.prog 58 #[.string s] w fun e w' => e = .returned (.tuple #[.slice none 0 0, .int .i64 2]) ∧ w = w' := by
  have Hn := Lib.hid hn
  clear hn
  go_enter Tryd.func58, Tryd.ntmps58
  go_wp2_with fail
  refine (isNumeral_walk s w (by omega)).mono ?_
  rintro e w' ⟨rfl, rfl⟩
  rw [Hn.out]
  go_wp2
  go_ret2
  exact ⟨rfl, rfl⟩
/-- Parse returns the number and OK. -/
def ParseEnd (m : Nat) (w : World) (e : Ending) (w' : World) : Prop := ∃ v, e = .returned (.tuple #[v, .int .i64 0]) ∧ Res w w' v m
theorem ad_len {l l' : List Nat} {dg : Nat} (hL : Num.Lim l) (hN : Num.Nrm l') (hv : Num.val l' = 10 * Num.val l + dg) (hdg : dg < 10) : l'.length ≤ l.length + 1 := by
  refine hN.len_le ?_
  have h1 := Num.val_lt l hL
  rw [hv, Nat.pow_succ]
  have h2 : Num.K ^ l.length * 10 ≤ Num.K ^ l.length * Num.K := Nat.mul_le_mul_left _ (by decide)
  omega
theorem Row.new (w : World) : Row (w.alloc (.cells #[] 46)) w.heap.size (.slice (some ⟨w.heap.size, 0, none⟩) 0 0) [] := World.ownsRow_lit w #[] 0 (Nat.le_refl _) (by decide) rfl

set_option maxRecDepth 4000 in
set_option maxHeartbeats 1000000 in
theorem parse_ok (s : ByteArray) (w : World) (h : s.size ≤ 200) (hn : isNum s.data.toList = true) :
    Calls Tryd.prog 58 #[.string s] w (ParseEnd (decVal s.data.toList) w) := by
  have Hn := Lib.hid hn
  clear hn
  have HR := Lib.hid (Row.new w)
  go_enter Tryd.func58, Tryd.ntmps58
  go_wp2_with fail
  refine (isNumeral_walk s w (by omega)).mono ?_
  rintro e w' ⟨rfl, rfl⟩
  rw [Hn.out]
  go_wp2
  go_loopw [4, 15] (fun v i wr => ∃ k : Nat, k ≤ s.size ∧ i = .int .i64 k ∧ ∃ l, Row wr w.heap.size v l ∧ Hid (Num.Lim l ∧ Num.Nrm l ∧ Num.val l = decVal (s.data.toList.take k) ∧ l.length ≤ k) ∧ Below w.heap.size w wr) (fun _ i _ => s.size - (intOf i).toNat)
  case atStart => exact ⟨0, Nat.zero_le _, rfl, [], HR.out, ⟨Num.Lim.nil, Num.Nrm.nil, rfl, Nat.le_refl _⟩, (Below.refl _ _).alloc (Nat.le_refl _) _⟩
  case round =>
    obtain ⟨k, hk, rfl, l, hrow, Hl, hbl⟩ := hrel
    by_cases hlt : k < s.size
    · have HB := Lib.hid (byte_at s k hlt)
      have hd := isNum_dgt Hn.out HB.out
      have hd1 : (48 : Int) ≤ (s[k].toNat : Int) := by omega
      have hd2 : (s[k].toNat : Int) ≤ 57 := by omega
      have Hd2 := Lib.hid hd.2
      clear hd
      go_wp2_with fail
      rw [show ((s[k].toNat : Int) - 48) = ((s[k].toNat - 48 : Nat) : Int) from by omega]
      refine (appendDigit_walk w.heap.size (s[k].toNat - 48) _ l wr hrow Hl.out.1 Hl.out.2.1 hbl.size (by have := Hd2.out; omega) (by have := Hl.out.2.2.2; omega)).mono ?_
      rintro e w1 ⟨v', l', rfl, hrow', hL', hN', hv', hg'⟩
      have Hl' : Hid (Num.Lim l' ∧ Num.Nrm l' ∧ Num.val l' = decVal (s.data.toList.take (k + 1)) ∧ l'.length ≤ k + 1) := ⟨hL', hN', by rw [hv', Hl.out.2.2.1, decVal_take _ _ _ HB.out], by have := ad_len Hl.out.1 hN' hv' (by have := Hd2.out; omega); have := Hl.out.2.2.2; omega⟩
      have hbl' : Below w.heap.size w w1 := hbl.grown hg' hbl.size (fun g hg => (hrow.lt g hg).1)
      clear hL' hN' hv' hg'
      go_wp2
      go_roundw
      case rel => exact ⟨k + 1, by omega, by go_num, l', hrow', Hl', hbl'⟩
      case measure => simp [intOf] <;> omega
    · go_wp2
      go_ret2
      have e1 : s.data.toList.take k = s.data.toList := List.take_of_length_le (by simp; omega)
      have h2 := Hl.out
      rw [e1] at h2
      exact ⟨_, rfl, l, (hrow.rd h2.1).mono (fun _ _ => trivial), h2.2.1, h2.2.2.1, hbl⟩
end Go.Proofs.YthcoemkbdllcfaaDoor
