/-
  Both Parses at any string of at most 400 bytes: the same error, or the same integer.
-/
import Derived.Test.YthcoemkbdllcfaaDoorRIntP
namespace Go.Proofs.YthcoemkbdllcfaaDoor
open Go.RowKit
set_option linter.unusedVariables false

theorem head_cons (s : ByteArray) (h : 0 < s.size) : ∃ tl, s.data.toList = s[0] :: tl := by
  have h1 := byte_at s 0 h
  cases e : s.data.toList with
  | nil => rw [e] at h1; simp at h1
  | cons x tl =>
    rw [e] at h1
    simp only [List.getElem?_cons_zero, Option.some.injEq] at h1
    exact ⟨tl, by rw [h1]⟩
theorem neg_p (s : ByteArray) (h : 0 < s.size) (hc : (s[0].toNat : Int) ≠ 45) : s = digs s ∧ false = isNeg s := by
  obtain ⟨tl, e⟩ := head_cons s h
  have hb : isNeg s = false := by
    unfold isNeg Lib.hasPrefix
    rw [e]
    simp only [List.isPrefixOf, Bool.and_true]
    rw [beq_eq_false_iff_ne]
    intro h2
    rw [← h2] at hc
    exact hc rfl
  refine ⟨bytes_ext ?_, hb.symm⟩
  unfold digs Lib.trimPrefix
  unfold isNeg at hb
  rw [hb]
  rfl
theorem neg_n (s : ByteArray) (h : 0 < s.size) (hc : (s[0].toNat : Int) = 45) : s.extract 1 s.size = digs s ∧ true = isNeg s := by
  obtain ⟨tl, e⟩ := head_cons s h
  have hb : isNeg s = true := by
    unfold isNeg Lib.hasPrefix
    rw [e]
    simp only [List.isPrefixOf, Bool.and_true]
    rw [beq_iff_eq]
    exact UInt8.toNat_inj.1 (by show 45 = s[0].toNat; omega)
  refine ⟨bytes_ext ?_, hb.symm⟩
  unfold digs Lib.trimPrefix
  unfold isNeg at hb
  rw [hb, Lib.extract_to_end]
  rfl
theorem neg_e (s : ByteArray) (h : s.size = 0) : s = digs s ∧ false = isNeg s := by
  have e : s.data.toList = [] := List.eq_nil_of_length_eq_zero (by simpa using h)
  refine ⟨bytes_ext ?_, ?_⟩
  · unfold digs Lib.trimPrefix Lib.hasPrefix
    rw [e]
    rfl
  · unfold isNeg Lib.hasPrefix
    rw [e]
    rfl
/-- What both Parses answer. -/
def Outs (s : ByteArray) : Prop :=
  (∃ code : Int, ∀ w, Calls Tryd.prog 30 #[.string s] w (PErr code w) ∧ Calls Tryd.prog 31 #[.string s] w (PErr code w)) ∨
  (∃ z : Int, ∀ w, Calls Tryd.prog 30 #[.string s] w (PInt z w) ∧ Calls Tryd.prog 31 #[.string s] w (PInt z w))
theorem parse_outs (s : ByteArray) (hs : s.size ≤ 400) : Outs s := by
  by_cases h0 : s.size = 0
  · have hd := neg_e s h0
    have hn : isNum s.data.toList = false := by
      rw [List.eq_nil_of_length_eq_zero (l := s.data.toList) (by simpa using h0)]
      rfl
    exact .inl ⟨2, fun w => ⟨iparse_bad s s false hd.1 hd.2 w (by omega) hn, riparse_bad_e s w (by omega) h0 (by omega) hn⟩⟩
  have hp : 0 < s.size := by omega
  by_cases hc : (s[0].toNat : Int) = 45
  · have hd := neg_n s hp hc
    have hl : (s.extract 1 s.size).size ≤ 400 := by simp; omega
    by_cases h1 : 200 < (s.extract 1 s.size).size
    · exact .inl ⟨5, fun w => ⟨iparse_long s _ true hd.1 hd.2 w h1 (by omega), riparse_long_n s w (by omega) hp hc (by omega) h1⟩⟩
    by_cases hn : isNum (s.extract 1 s.size).data.toList = true
    · rcases Nat.eq_zero_or_pos (decVal (s.extract 1 s.size).data.toList) with hz | hz
      · exact .inl ⟨2, fun w => ⟨iparse_z s _ hd.1 hd.2 w (by omega) hn hz, riparse_z s w (by omega) hp hc (by omega) hn hz⟩⟩
      · exact .inr ⟨_, fun w => ⟨iparse_m s _ hd.1 hd.2 w (by omega) hn hz, riparse_m s w (by omega) hp hc (by omega) hn hz⟩⟩
    · exact .inl ⟨2, fun w => ⟨iparse_bad s _ true hd.1 hd.2 w (by omega) (by simpa using hn), riparse_bad_n s w (by omega) hp hc (by omega) (by simpa using hn)⟩⟩
  · have hd := neg_p s hp hc
    by_cases h1 : 200 < s.size
    · exact .inl ⟨5, fun w => ⟨iparse_long s s false hd.1 hd.2 w h1 (by omega), riparse_long_p s w (by omega) hp hc (by omega) h1⟩⟩
    by_cases hn : isNum s.data.toList = true
    · exact .inr ⟨_, fun w => ⟨iparse_p s s hd.1 hd.2 w (by omega) hn, riparse_p s w (by omega) hp hc (by omega) hn⟩⟩
    · exact .inl ⟨2, fun w => ⟨iparse_bad s s false hd.1 hd.2 w (by omega) (by simpa using hn), riparse_bad_p s w (by omega) hp hc (by omega) (by simpa using hn)⟩⟩
end Go.Proofs.YthcoemkbdllcfaaDoor
