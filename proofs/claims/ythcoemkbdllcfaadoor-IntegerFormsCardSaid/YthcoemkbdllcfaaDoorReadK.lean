/-
  The contracts of natural's Text and Parse, said of numbers.
-/
import Derived.Test.YthcoemkbdllcfaaDoorNumK
import Derived.Test.YthcoemkbdllcfaaDoorReadNum
import Derived.Test.YthcoemkbdllcfaaDoorText
namespace Go.Proofs.YthcoemkbdllcfaaDoor
open Go.RowKit

theorem parse_long' (s : ByteArray) (w : World) (hs : s.size ≤ 9223372036854775807) (h : 200 < s.size) :
    Calls Tryd.prog 58 #[.string s] w fun e w' => e = .returned (.tuple #[.slice none 0 0, .int .i64 5]) ∧ w = w' := by
  go_enter Tryd.func58, Tryd.ntmps58
  go_wp2
  go_ret2
  exact ⟨rfl, rfl⟩
/-- A call returns the string t. -/
def StrEnd (t : ByteArray) (w : World) (e : Ending) (w' : World) : Prop := e = .returned (.string t) ∧ Below w.heap.size w w'
theorem text_n {w : World} {va : Value} {a k : Nat} (ha : Nm w va a k) (hk : k ≤ 1000) (ht : Tab w) (t : ByteArray) (h : t.data.toList = Lib.decDigits a) : Calls Tryd.prog 60 #[va] w (StrEnd t w) := by
  obtain ⟨la, ra, rfl, na⟩ := ha
  refine (text_walk _ la w ra (by omega) ht).mono fun e w' ⟨he, hb⟩ => ⟨?_, hb⟩
  rw [he, ← h]
def PNEnd (m k : Nat) (w : World) (e : Ending) (w' : World) : Prop := ∃ v, e = .returned (.tuple #[v, .int .i64 0]) ∧ Nz w' v m k ∧ Below w.heap.size w w'
theorem decVal_lt (l : List UInt8) (h : ∀ c ∈ l, c.toNat ≤ 57) : decVal l < 10 ^ l.length := by
  induction l using Txt.rev_ind with
  | nil => simp [decVal]
  | snoc l c ih =>
    have h1 := ih (fun x hx => h x (by simp [hx]))
    have h2 := h c (by simp)
    rw [decVal_snoc, List.length_append]
    show _ < 10 ^ (l.length + 1)
    rw [Nat.pow_succ]
    omega
theorem parse_n (s : ByteArray) (w : World) (h : s.size ≤ 200) (hn : isNum s.data.toList = true) : Calls Tryd.prog 58 #[.string s] w (PNEnd (decVal s.data.toList) 200 w) := by
  refine (parse_ok s w h hn).mono fun e w' ⟨v, he, hr⟩ => ?_
  have h1 := decVal_lt s.data.toList (fun c hc => by
    obtain ⟨j, hj⟩ := List.getElem?_of_mem hc
    exact (isNum_dgt hn hj).2)
  have h2 : s.data.toList.length ≤ 200 := by simpa using h
  have h3 : 10 ^ s.data.toList.length ≤ Num.K ^ 200 := Nat.le_trans (Nat.pow_le_pow_right (by omega) h2) (Nat.pow_le_pow_left (by decide) 200)
  have h4 := hr.nz 200 (Nat.lt_of_lt_of_le h1 h3)
  exact ⟨v, he, h4.1, h4.2⟩
theorem Nz.some {w : World} {v : Value} {m k : Nat} (h : Nz w v m k) (hm : 0 < m) : ∃ A n c, v = .slice A n c ∧ 0 < n := by
  obtain ⟨l, h1, h0, h2, h3⟩ := h
  obtain ⟨A, c, e⟩ := h1.len
  refine ⟨A, _, c, e, ?_⟩
  rcases Nat.eq_zero_or_pos l.length with h | h
  · rw [List.eq_nil_of_length_eq_zero h] at h2
    simp [Num.val] at h2
    omega
  · exact h
theorem Nz.wide {w : World} {v : Value} {m k k' : Nat} (h : Nz w v m k) (hk : k ≤ k') : Nz w v m k' := by
  obtain ⟨l, h1, h2, h3, h4⟩ := h
  exact ⟨l, h1, h2, h3, by omega⟩
end Go.Proofs.YthcoemkbdllcfaaDoor
