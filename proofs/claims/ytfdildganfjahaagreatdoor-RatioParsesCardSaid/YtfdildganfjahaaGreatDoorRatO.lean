/-
  What both Parses of ratios answer at any string of at most 500 bytes, and that what they accept is the text of the number.
-/
import Derived.Test.YtfdildganfjahaaGreatDoorRRatT
import Derived.Test.YtfdildganfjahaaGreatDoorRatR
namespace Go.Proofs.YtfdildganfjahaaGreatDoor
open Go.RowKit Txt
set_option linter.unusedVariables false

def QOuts (s : ByteArray) : Prop :=
  (∃ code : Int, code ≠ 0 ∧ ∀ w, Calls Tryz.prog 34 #[.string s] w (PQErr code w) ∧ Calls Tryz.prog 35 #[.string s] w (PQErr code w)) ∨
  (∃ x : Rat, s.data.toList = RatN.qdec x ∧ ∀ w, Calls Tryz.prog 34 #[.string s] w (PQEnd x w) ∧ Calls Tryz.prog 35 #[.string s] w (PQEnd x w))
def NOuts (r : ByteArray) : Prop :=
  (∃ code : Int, code ≠ 0 ∧ (∀ w, Calls Tryz.prog 75 #[.string r] w (PNErr code w)) ∧ ∀ w, Calls Tryz.prog 80 #[.string r] w (PNErr code w)) ∨
  (∃ d : Nat, r.data.toList = Lib.decDigits d ∧ (∀ w, Calls Tryz.prog 75 #[.string r] w (PNEnd d 200 w)) ∧ ∀ w, Calls Tryz.prog 80 #[.string r] w (PNEnd d 200 w))
theorem pnerr {f : FuncId} {v : Array Value} {w : World} {code : Int} (h : Calls Tryz.prog f v w fun e w' => e = .returned (.tuple #[.slice none 0 0, .int .i64 code]) ∧ w = w') : Calls Tryz.prog f v w (PNErr code w) := h.mono fun e w' ⟨he, hw⟩ => ⟨he, hw ▸ Below.refl _ _⟩
theorem n_outs (r : ByteArray) (hr : r.size ≤ 1000) : NOuts r := by
  by_cases h1 : 200 < r.size
  · exact .inl ⟨5, by decide, fun w => pnerr (parse_long r w (by omega) h1), fun w => pnerr (rparse_long r w (by omega) h1)⟩
  · by_cases hn : isNum r.data.toList = true
    · exact .inr ⟨decVal r.data.toList, (dec_read _ hn).symm, fun w => parse_n r w (by omega) hn, fun w => rparse_n r w (by omega) hn⟩
    · have hn : isNum r.data.toList = false := by simpa using hn
      exact .inl ⟨2, by decide, fun w => pnerr (parse_bad r w (by omega) hn), fun w => pnerr (rparse_bad r w (by omega) hn)⟩
theorem zdec_len (z : Int) : (Lib.decDigits z.natAbs).length ≤ (zdec z).length := by
  simp only [zdec]
  split
  · rw [List.length_cons]; omega
  · exact Nat.le_refl _
theorem q_outs (s : ByteArray) (hs : s.size ≤ 500) : QOuts s := by
  have h1 := Lib.indexByte_ge s.data.toList 47
  by_cases h2 : Lib.indexByte s.data.toList 47 = -1
  · -- no slash
    have hsl : ∀ w, Calls Tryz.prog 78 #[.string s] w (I64End (s.size : Int) w) := fun w => rslash_miss s w (by omega) (Lib.indexByte_none h2)
    have hpe : s.extract 0 s.size = s := bytes_ext (by
      rw [Lib.extract_eq]
      show List.take (s.size - 0) (List.drop 0 s.data.toList) = _
      rw [List.drop_zero]
      exact List.take_of_length_le (by rw [list_size]; exact Nat.le_refl _))
    rcases parse_outs_t s (by omega) with ⟨code, hcode, hp⟩ | ⟨z, hz, hp⟩
    · have h0 : code ≠ 0 := by omega
      exact .inl ⟨code, h0, fun w => ⟨qparse_e s w s ⟨#[]⟩ false (fun w => cut_miss s w h2) code h0 (fun w => (hp w).1), rqparse_e s w s.size (by omega) (by omega) hsl s _ hpe rfl code h0 (fun w => (hp w).2)⟩⟩
    · exact .inr ⟨mkRat z 1, by rw [RatN.qdec_whole, hz], fun w => ⟨qparse_w s w s ⟨#[]⟩ (fun w => cut_miss s w h2) z (fun w => (hp w).1), rqparse_w s w s.size (by omega) rfl hsl s _ hpe rfl z (fun w => (hp w).2)⟩⟩
  · obtain ⟨i, hi⟩ : ∃ i : Nat, Lib.indexByte s.data.toList 47 = (i : Int) := ⟨(Lib.indexByte s.data.toList 47).toNat, by omega⟩
    obtain ⟨k1, k2⟩ := Lib.indexByte_some hi
    have hil : i < s.size := by
      have := (List.getElem?_eq_some_iff.1 k1).1
      simpa using this
    have hsl : ∀ w, Calls Tryz.prog 78 #[.string s] w (I64End (i : Int) w) := fun w => rslash_hit s i w (by omega) hil k1 k2
    have hcut := fun w => cut_hit s i w hi hil (by omega)
    have hps : (s.extract 0 i).size ≤ 500 := by simp; omega
    have hrs : (s.extract (i + 1) s.size).size ≤ 500 := by simp; omega
    have hlist : s.data.toList = (s.extract 0 i).data.toList ++ 47 :: (s.extract (i + 1) s.size).data.toList := by
      rw [Lib.extract_to_end, Lib.extract_eq]
      show _ = List.take (i - 0) (List.drop 0 s.data.toList) ++ _
      rw [List.drop_zero, Nat.sub_zero]
      have e : s.data.toList.drop i = 47 :: s.data.toList.drop (i + 1) := by
        obtain ⟨hlt, hv⟩ := List.getElem?_eq_some_iff.1 k1
        rw [← hv]
        exact List.drop_eq_getElem_cons hlt
      rw [← e, List.take_append_drop]
    rcases parse_outs_t (s.extract 0 i) (by omega) with ⟨code, hcode, hp⟩ | ⟨z, hz, hp⟩
    · have h0 : code ≠ 0 := by omega
      exact .inl ⟨code, h0, fun w => ⟨qparse_e s w _ _ true hcut code h0 (fun w => (hp w).1), rqparse_e s w i (by omega) (by omega) hsl _ _ rfl rfl code h0 (fun w => (hp w).2)⟩⟩
    · rcases n_outs (s.extract (i + 1) s.size) (by omega) with ⟨code, h0, hr, hr'⟩ | ⟨d, hd, hr, hr'⟩
      · exact .inl ⟨code, h0, fun w => ⟨qparse_d s w _ _ hcut z (fun w => (hp w).1) code h0 hr, rqparse_d s w i (by omega) hil hsl _ _ rfl rfl z (fun w => (hp w).2) code h0 hr'⟩⟩
      · have hzl : z.natAbs < Num.K ^ 60 := by
          refine small_dec _ (Nat.le_trans (zdec_len z) ?_)
          rw [hz, list_size]; exact hps
        have hdl : d < Num.K ^ 60 := small_dec _ (by rw [← hd, list_size]; exact hrs)
        obtain ⟨o, ho⟩ : ∃ o, cmpI d 1 = o := ⟨_, rfl⟩
        have hoc := cmpI_cases d 1
        rw [ho] at hoc
        by_cases d0 : d = 0
        · exact .inl ⟨2, by decide, fun w => ⟨qparse_x0 s w _ _ hcut z (fun w => (hp w).1) d hr d0, rqparse_x s w i (by omega) hil hsl _ _ rfl rfl z (fun w => (hp w).2) d hr' o ho (by omega)⟩⟩
        · by_cases d1 : d = 1
          · exact .inl ⟨2, by decide, fun w => ⟨qparse_x1 s w _ _ hcut z (fun w => (hp w).1) d hr d1, rqparse_x s w i (by omega) hil hsl _ _ rfl rfl z (fun w => (hp w).2) d hr' o ho (by omega)⟩⟩
          · obtain ⟨q, hq⟩ : ∃ q, cmpI (Nat.gcd z.natAbs d) 1 = q := ⟨_, rfl⟩
            have hqc := cmpI_cases (Nat.gcd z.natAbs d) 1
            rw [hq] at hqc
            by_cases g1 : Nat.gcd z.natAbs d = 1
            · have hq0 : cmpI (Nat.gcd z.natAbs d) 1 = 0 := by omega
              refine .inr ⟨mkRat z d, ?_, fun w => ⟨qparse_ok s w _ _ hcut z (fun w => (hp w).1) d hr (decide_eq_false d0) (decide_eq_false d1) (decide_eq_true g1) d0, rqparse_ok s w i (by omega) hil hsl _ _ rfl rfl z (fun w => (hp w).2) d hr' o ho (by omega) hq0 d0 g1 hzl hdl⟩⟩
              rw [RatN.qdec_low z d (by omega) g1, hz, ← hd]
              exact hlist
            · have hq1 : (q != 0) = true := by
                have : q ≠ 0 := by omega
                simpa using this
              exact .inl ⟨2, by decide, fun w => ⟨qparse_xg s w _ _ hcut z (fun w => (hp w).1) d hr (decide_eq_false d0) (decide_eq_false d1) (decide_eq_false g1), rqparse_xg s w i (by omega) hil hsl _ _ rfl rfl z (fun w => (hp w).2) d hr' o ho (by omega) q hq hq1 hzl hdl⟩⟩
theorem Qz.tight {w : World} {v : Value} {x : Rat} {k j : Nat} (h : Qz w v x k j) (h1 : x.num.natAbs < Num.K ^ 60) (h2 : x.den < Num.K ^ 60) : Qz w v x 60 60 := by
  obtain ⟨b, A, n, c, B, m, c', rfl, h3, h4⟩ := h
  obtain ⟨m', h5, h6, h7⟩ := h3.parts
  exact ⟨b, A, n, c, B, m, c', rfl, ⟨_, _, _, _, m', rfl, h5.tight (by rw [h6, RatN.sgn_abs] at h1; exact h1), h6, h7⟩, h4.tight h2⟩
theorem text_small (x : Rat) (s : ByteArray) (hx : s.data.toList = RatN.qdec x) (hs : s.size ≤ 500) : x.num.natAbs < Num.K ^ 60 ∧ x.den < Num.K ^ 60 := by
  have hl : (RatN.qdec x).length ≤ 500 := by rw [← hx, list_size]; exact hs
  simp only [RatN.qdec, List.length_append] at hl
  refine ⟨small_dec _ (Nat.le_trans (zdec_len _) (by omega)), ?_⟩
  by_cases hd : x.den = 1
  · rw [hd]; exact small_dec 1 (by rw [Lib.decDigits_one (by decide)]; decide)
  · simp only [hd, if_false, List.length_cons] at hl
    exact small_dec _ (by omega)
end Go.Proofs.YtfdildganfjahaaGreatDoor
