/-
  The walk of garmentlaw01.NaturalReads: it returns true, whatever the number and the string.
-/
import Derived.Test.YtldkiolkhpjhbaaDoorLawKit
import Derived.Test.YtldkiolkhpjhbaaDoorReadNum
namespace Go.Proofs.YtldkiolkhpjhbaaDoor
open Go.RowKit

theorem parse_long' (s : ByteArray) (w : World) (hs : s.size ≤ 9223372036854775807) (h : 200 < s.size) :
    Calls Tryd.prog 34 #[.string s] w fun e w' => e = .returned (.tuple #[.slice none 0 0, .int .i64 5]) ∧ w = w' := by
  go_enter Tryd.func34, Tryd.ntmps34
  go_wp2
  go_ret2
  exact ⟨rfl, rfl⟩
/-- A call returns the string t. -/
def StrEnd (t : ByteArray) (w : World) (e : Ending) (w' : World) : Prop := e = .returned (.string t) ∧ Below w.heap.size w w'
theorem text_n {w : World} {va : Value} {a k : Nat} (ha : Nm w va a k) (hk : k ≤ 1000) (ht : Tab w) (t : ByteArray) (h : t.data.toList = Lib.decDigits a) : Calls Tryd.prog 36 #[va] w (StrEnd t w) := by
  obtain ⟨la, ra, rfl, na⟩ := ha
  refine (text_walk _ la w ra (by omega) ht).mono fun e w' ⟨he, hb⟩ => ⟨?_, hb⟩
  rw [he, ← h]
def PNEnd (m k : Nat) (w : World) (e : Ending) (w' : World) : Prop := ∃ v, e = .returned (.tuple #[v, .int .i64 0]) ∧ Nz w' v m k ∧ Below w.heap.size w w'
theorem decVal_lt (l : List UInt8) (h : ∀ c ∈ l, c.toNat ≤ 57) : decVal l < 10 ^ l.length := by
  induction l using Txt.rev_ind with
  | nil => simp [decVal]
  | snoc l c ih =>
    have h1 := ih (fun x hx => h x (by simp [hx]))
    have h2 := h c (by simp)
    rw [decVal_snoc, List.length_append]
    show _ < 10 ^ (l.length + 1)
    rw [Nat.pow_succ]
    omega
theorem parse_n (s : ByteArray) (w : World) (h : s.size ≤ 200) (hn : isNum s.data.toList = true) : Calls Tryd.prog 34 #[.string s] w (PNEnd (decVal s.data.toList) 200 w) := by
  refine (parse_ok s w h hn).mono fun e w' ⟨v, he, hr⟩ => ?_
  have h1 := decVal_lt s.data.toList (fun c hc => by
    obtain ⟨j, hj⟩ := List.getElem?_of_mem hc
    exact (isNum_dgt hn hj).2)
  have h2 : s.data.toList.length ≤ 200 := by simpa using h
  have h3 : 10 ^ s.data.toList.length ≤ Num.K ^ 200 := Nat.le_trans (Nat.pow_le_pow_right (by omega) h2) (Nat.pow_le_pow_left (by decide) 200)
  have h4 := hr.nz 200 (Nat.lt_of_lt_of_le h1 h3)
  exact ⟨v, he, h4.1, h4.2⟩

set_option maxHeartbeats 4000000 in
/-- The law's second half: what Parse accepts is written back. -/
theorem reads_walk (va : Value) (s : ByteArray) (la : List Nat) (w : World) (ra : Rd w (fun _ => True) va la) (hs : s.size ≤ maxLen) (ht : Tab w) :
    Calls Tryd.prog 12 #[va, .string s] w (LawEnd w) := by
  unfold maxLen at hs
  have HT := Lib.hid ht
  clear ht
  obtain ⟨A, n, c, rfl, hbn, ha⟩ := ra.named
  obtain ⟨a, hva⟩ : ∃ x, x = Num.val la := ⟨_, rfl⟩
  rw [← hva] at ha
  clear hva ra
  by_cases hl : 24 < n
  · go_enter Tryd.func12, Tryd.ntmps12
    go_wp2_with fail
    refine (alive_walk w HT.out).mono ?_
    rintro e w1 ⟨rfl, hb1⟩
    go_wp2
    go_ret
    exact ⟨rfl, hb1⟩
  · have hn : n ≤ 24 := by omega
    clear hl
    by_cases hl : 300 < s.size
    · go_enter Tryd.func12, Tryd.ntmps12
      go_wp2_with fail
      refine (alive_walk w HT.out).mono ?_
      rintro e w1 ⟨rfl, hb1⟩
      go_wp2
      go_ret
      exact ⟨rfl, hb1⟩
    · have hs3 : s.size ≤ 300 := by omega
      clear hl
      obtain ⟨t, htd⟩ : ∃ t : ByteArray, t.data.toList = Lib.decDigits a := ⟨⟨(Lib.decDigits a).toArray⟩, rfl⟩
      have Htd := Lib.hid htd
      have htb : t.size ≤ 240 := by
        have h1 : t.size = (Lib.decDigits a).length := by rw [← htd]; simp
        rw [h1]
        refine Txt.dec_length_le a 240 (Nat.lt_of_lt_of_le ha.lt ?_) (by omega)
        have h2 : Num.K ^ n ≤ (10 ^ 10) ^ n := Nat.pow_le_pow_left (by decide) n
        rw [← Nat.pow_mul] at h2
        exact Nat.le_trans h2 (Nat.pow_le_pow_right (by omega) (by omega))
      clear htd
      by_cases htl : 200 < t.size
      all_goals
        by_cases hsl : 200 < s.size
        all_goals
          by_cases hnum : isNum s.data.toList = true
          all_goals
            have Hnum := Lib.hid hnum
            clear hnum
            go_enter Tryd.func12, Tryd.ntmps12
            go_wp2_with fail
            refine (text_n ha (by omega) HT.out t Htd.out).mono ?_
            rintro e w1 ⟨rfl, b1⟩
            have ha1 := ha.below b1
            go_wp2_with fail
            first
              | (refine (parse_long' t w1 (by omega) htl).mono ?_
                 rintro e w2 ⟨rfl, rfl⟩
                 have B3 : Below w.heap.size w w1 := b1)
              | (refine (parse_n t w1 (by omega) (by rw [Htd.out]; exact Txt.dec_isNum a)).mono ?_
                 rintro e w2 ⟨v2, rfl, z2, b2⟩
                 have ha2 := ha1.below b2
                 have B2 := b1.trans (b2.mono b1.size)
                 go_wp2_with fail
                 refine (cmp_n ha2 z2.nm 0 (cmpI_eq (by rw [Htd.out, Txt.read_dec]))).mono ?_
                 rintro e w3 ⟨rfl, b3⟩
                 have B3 := B2.trans (b3.mono B2.size)
                 clear b2 b3 B2 ha2 z2)
            go_wp2_with fail
            first
              | (refine (parse_long' s _ hs hsl).mono ?_
                 rintro e w4 ⟨rfl, rfl⟩)
              | (refine (parse_bad s _ (by omega) (by simpa using Hnum.out)).mono ?_
                 rintro e w4 ⟨rfl, rfl⟩)
              | (refine (parse_n s _ (by omega) Hnum.out).mono ?_
                 rintro e w4 ⟨v4, rfl, z4, b4⟩
                 have B4 := B3.trans (b4.mono B3.size)
                 go_wp2_with fail
                 refine (text_n z4.nm (by omega) (HT.out.below B4) s (by rw [Txt.dec_read _ Hnum.out])).mono ?_
                 rintro e w5 ⟨rfl, b5⟩
                 have B3 := B4.trans (b5.mono B4.size)
                 clear b4 b5 B4 z4)
            go_wp2_with fail
            refine (alive_walk _ (HT.out.below B3)).mono ?_
            rintro e w6 ⟨rfl, b6⟩
            have B6 := B3.trans (b6.mono B3.size)
            go_wp2
            go_ret
            exact ⟨rfl, B6⟩
end Go.Proofs.YtldkiolkhpjhbaaDoor
