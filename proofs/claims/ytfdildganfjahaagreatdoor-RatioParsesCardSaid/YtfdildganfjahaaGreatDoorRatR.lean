/-
  Reading back: what ratio.Parse answers at the text of a number.
-/
import Derived.Test.YtfdildganfjahaaGreatDoorRatT
namespace Go.Proofs.YtfdildganfjahaaGreatDoor
open Go.RowKit
set_option linter.unusedVariables false

theorem index_no (l : List UInt8) (h : (47 : UInt8) ∉ l) : Lib.indexByte l 47 = -1 := by
  have h1 := Lib.indexByte_ge l 47
  by_cases h2 : Lib.indexByte l 47 = -1
  · exact h2
  · obtain ⟨o, ho⟩ : ∃ o : Nat, Lib.indexByte l 47 = (o : Int) := ⟨(Lib.indexByte l 47).toNat, by omega⟩
    exact absurd (List.mem_of_getElem? (Lib.indexByte_some ho).1) h
theorem index_at : ∀ (a b : List UInt8), (47 : UInt8) ∉ a → Lib.indexByte (a ++ 47 :: b) 47 = (a.length : Int) := by
  intro a
  induction a with
  | nil => intro b _; simp [Lib.indexByte]
  | cons x a ih =>
    intro b h
    simp only [List.mem_cons, not_or] at h
    have hi := ih b h.2
    have hx : (x == 47) = false := by rw [beq_eq_false_iff_ne]; exact fun e => h.1 e.symm
    have hn : (((a.length : Nat) : Int) == -1) = false := by rw [beq_eq_false_iff_ne]; omega
    simp only [List.cons_append, Lib.indexByte, hx, hi, hn, if_false, Bool.false_eq_true, List.length_cons]
    omega
theorem list_size (t : ByteArray) : t.data.toList.length = t.size := by simp
/-- integer.Parse at the text of an integer. -/
theorem iparse_text (z : Int) (p : ByteArray) (hp : p.data.toList = zdec z) (hl : (Lib.decDigits z.natAbs).length ≤ 200) (w : World) : Calls Tryz.prog 73 #[.string p] w (PInt z w) := by
  obtain ⟨u, hu⟩ : ∃ u : ByteArray, u.data.toList = Lib.decDigits z.natAbs := ⟨⟨(Lib.decDigits z.natAbs).toArray⟩, rfl⟩
  have hus : u.size = (Lib.decDigits z.natAbs).length := by rw [← hu, list_size]
  have hup : 0 < u.size := by
    have h1 := List.length_pos_iff.2 (Txt.dec_ne z.natAbs)
    omega
  have hun : isNum u.data.toList = true := by rw [hu]; exact Txt.dec_isNum _
  have huv : decVal u.data.toList = z.natAbs := by rw [hu]; exact Txt.read_dec _
  by_cases h0 : z < 0
  · have e : p.data.toList = 45 :: u.data.toList := by rw [hp, hu]; simp [zdec, h0]
    have htp : 0 < p.size := by
      have := list_size p
      rw [e] at this
      simp at this
      omega
    have hc : (p[0].toNat : Int) = 45 := by
      obtain ⟨tl, e2⟩ := head_cons p htp
      rw [e2] at e
      injection e with e3 _
      rw [e3]
      rfl
    have hn := neg_n p htp hc
    have hd : u = digs p := by
      rw [← hn.1]
      exact bytes_ext (by rw [Lib.extract_to_end, e]; rfl)
    have hz : z = sgn true (decVal u.data.toList) := by rw [huv, sgn_true]; omega
    rw [hz]
    exact iparse_m p u hd hn.2 w (by omega) hun (by omega)
  · have e : p = u := bytes_ext (by rw [hp, hu]; simp [zdec, h0])
    subst e
    have hc : (p[0].toNat : Int) ≠ 45 := by
      have h1 := byte_at p 0 hup
      have h2 := (isNum_dgt hun h1).1
      omega
    have hn := neg_p p hup hc
    have hz : z = sgn false (decVal p.data.toList) := by rw [huv, sgn_false]; omega
    rw [hz]
    exact iparse_p p p hn.1 hn.2 w (by omega) hun
theorem qparse_text (x : Rat) (t : ByteArray) (w : World) (ht : t.data.toList = RatN.qdec x) (h1 : (Lib.decDigits x.num.natAbs).length ≤ 200) (h2 : (Lib.decDigits x.den).length ≤ 200) : Calls Tryz.prog 34 #[.string t] w (PQEnd x w) := by
  have hzl : (zdec x.num).length ≤ 201 := by
    simp only [zdec]; split
    · rw [List.length_cons]; omega
    · omega
  by_cases hd : x.den = 1
  · have e : t.data.toList = zdec x.num := by rw [ht]; simp [RatN.qdec, hd]
    have hx : mkRat x.num 1 = x := by
      have := RatN.mk_self x
      rw [hd] at this
      exact this
    have k := qparse_w t w t ⟨#[]⟩ (fun w => cut_miss t w (by rw [e]; exact index_no _ (RatN.zdec_no _))) x.num (fun w => iparse_text x.num t e h1 w)
    rw [hx] at k
    exact k
  · have e : t.data.toList = zdec x.num ++ 47 :: Lib.decDigits x.den := by rw [ht]; simp [RatN.qdec, hd]
    have hi : Lib.indexByte t.data.toList 47 = ((zdec x.num).length : Int) := by rw [e]; exact index_at _ _ (RatN.zdec_no _)
    have hs : t.size = (zdec x.num).length + 1 + (Lib.decDigits x.den).length := by
      rw [← list_size t, e]
      simp
      omega
    have hp : (t.extract 0 (zdec x.num).length).data.toList = zdec x.num := by
      have := Lib.extract_eq t 0 (zdec x.num).length
      rw [this]
      show (List.take _ (List.drop 0 t.data.toList)) = _
      rw [e]
      simp
    have hr : (t.extract ((zdec x.num).length + 1) t.size).data.toList = Lib.decDigits x.den := by
      rw [Lib.extract_to_end, e]
      simp
    have hrs : (t.extract ((zdec x.num).length + 1) t.size).size ≤ 200 := by rw [← list_size, hr]; exact h2
    have k := qparse_ok t w _ _ (fun w => cut_hit t (zdec x.num).length w hi (by omega) (by omega)) x.num (fun w => iparse_text x.num _ hp h1 w) x.den
      (fun w => by
        have := parse_n (t.extract ((zdec x.num).length + 1) t.size) w hrs (by rw [hr]; exact Txt.dec_isNum _)
        rw [hr, Txt.read_dec] at this
        exact this)
      (decide_eq_false x.den_nz) (decide_eq_false hd) (decide_eq_true x.reduced) x.den_nz
    rw [RatN.mk_self x] at k
    exact k
end Go.Proofs.YtfdildganfjahaaGreatDoor
