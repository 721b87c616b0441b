/-
  What both Parses of integers answer, and that what they accept is the text of the number.
-/
import Derived.Test.YtfdildganfjahaaGreatDoorJRInt
namespace Go.Proofs.YtfdildganfjahaaGreatDoor
open Go.RowKit Txt
set_option linter.unusedVariables false

theorem zdec_p (l : List UInt8) (h : isNum l = true) : zdec (sgn false (decVal l)) = l := by
  have : ¬ (sgn false (decVal l) < 0) := by simp [sgn]
  simp only [zdec, this, if_false]
  simp only [sgn, Bool.false_eq_true, if_false, Int.natAbs_natCast]
  exact dec_read l h
theorem zdec_m (l : List UInt8) (h : isNum l = true) (h0 : 0 < decVal l) : zdec (sgn true (decVal l)) = 45 :: l := by
  have : sgn true (decVal l) < 0 := by simp [sgn]; omega
  simp only [zdec, this, if_true]
  simp only [sgn, if_true, Int.natAbs_neg, Int.natAbs_natCast]
  rw [dec_read l h]
/-- What both Parses answer: an error, or the integer whose text the string is. -/
def OutsT (s : ByteArray) : Prop :=
  (∃ code : Int, (code = 2 ∨ code = 5) ∧ ∀ w, Calls Tryz.prog 73 #[.string s] w (PErr code w) ∧ Calls Tryz.prog 79 #[.string s] w (PErr code w)) ∨
  (∃ z : Int, zdec z = s.data.toList ∧ ∀ w, Calls Tryz.prog 73 #[.string s] w (PInt z w) ∧ Calls Tryz.prog 79 #[.string s] w (PInt z w))
theorem parse_outs_t (s : ByteArray) (hs : s.size ≤ 1000) : OutsT s := by
  by_cases h0 : s.size = 0
  · have hd := neg_e s h0
    have hn : isNum s.data.toList = false := by
      rw [List.eq_nil_of_length_eq_zero (l := s.data.toList) (by simpa using h0)]
      rfl
    exact .inl ⟨2, .inl rfl, fun w => ⟨iparse_bad s s false hd.1 hd.2 w (by omega) hn, riparse_bad_e s w (by omega) h0 (by omega) hn⟩⟩
  have hp : 0 < s.size := by omega
  by_cases hc : (s[0].toNat : Int) = 45
  · have hd := neg_n s hp hc
    have hl : (s.extract 1 s.size).size ≤ 1000 := by simp; omega
    have hx : s.data.toList = 45 :: (s.extract 1 s.size).data.toList := by
      obtain ⟨tl, e⟩ := head_cons s hp
      have h45 : s[0] = 45 := UInt8.toNat_inj.mp (by rw [show (45 : UInt8).toNat = 45 from rfl]; omega)
      rw [Lib.extract_to_end, e, h45]; rfl
    by_cases h1 : 200 < (s.extract 1 s.size).size
    · exact .inl ⟨5, .inr rfl, fun w => ⟨iparse_long s _ true hd.1 hd.2 w h1 (by omega), riparse_long_n s w (by omega) hp hc (by omega) h1⟩⟩
    by_cases hn : isNum (s.extract 1 s.size).data.toList = true
    · rcases Nat.eq_zero_or_pos (decVal (s.extract 1 s.size).data.toList) with hz | hz
      · exact .inl ⟨2, .inl rfl, fun w => ⟨iparse_z s _ hd.1 hd.2 w (by omega) hn hz, riparse_z s w (by omega) hp hc (by omega) hn hz⟩⟩
      · exact .inr ⟨_, by rw [zdec_m _ hn hz, hx], fun w => ⟨iparse_m s _ hd.1 hd.2 w (by omega) hn hz, riparse_m s w (by omega) hp hc (by omega) hn hz⟩⟩
    · exact .inl ⟨2, .inl rfl, fun w => ⟨iparse_bad s _ true hd.1 hd.2 w (by omega) (by simpa using hn), riparse_bad_n s w (by omega) hp hc (by omega) (by simpa using hn)⟩⟩
  · have hd := neg_p s hp hc
    by_cases h1 : 200 < s.size
    · exact .inl ⟨5, .inr rfl, fun w => ⟨iparse_long s s false hd.1 hd.2 w h1 (by omega), riparse_long_p s w (by omega) hp hc (by omega) h1⟩⟩
    by_cases hn : isNum s.data.toList = true
    · exact .inr ⟨_, zdec_p _ hn, fun w => ⟨iparse_p s s hd.1 hd.2 w (by omega) hn, riparse_p s w (by omega) hp hc (by omega) hn⟩⟩
    · exact .inl ⟨2, .inl rfl, fun w => ⟨iparse_bad s s false hd.1 hd.2 w (by omega) (by simpa using hn), riparse_bad_p s w (by omega) hp hc (by omega) (by simpa using hn)⟩⟩
end Go.Proofs.YtfdildganfjahaaGreatDoor
