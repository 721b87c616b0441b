/-
  The walk of garmentlaw01.NaturalTexts: it returns true, whatever the numbers.
-/
import Derived.Test.YtldkiolkhpjhbaaDoorRefK
namespace Go.Proofs.YtldkiolkhpjhbaaDoor
open Go.RowKit


set_option maxHeartbeats 4000000 in
theorem texts_walk (va : Value) (s : ByteArray) (la : List Nat) (w : World) (ra : Rd w (fun _ => True) va la) (hs : s.size ≤ maxLen) (ht : Tab w) :
    Calls Tryd.prog 7 #[va, .string s] w (LawEnd w) := by
  unfold maxLen at hs
  have HT := Lib.hid ht
  clear ht
  obtain ⟨A, n, c, rfl, hbn, ha⟩ := ra.named
  obtain ⟨a, hva⟩ : ∃ x, x = Num.val la := ⟨_, rfl⟩
  rw [← hva] at ha
  clear hva ra
  by_cases hl : 24 < n
  · go_enter Tryd.func7, Tryd.ntmps7
    go_wp2_with fail
    refine (alive_walk w HT.out).mono ?_
    rintro e w1 ⟨rfl, hb1⟩
    go_wp2
    go_ret
    exact ⟨rfl, hb1⟩
  · have hn : n ≤ 24 := by omega
    clear hl
    by_cases hl : 300 < s.size
    · go_enter Tryd.func7, Tryd.ntmps7
      go_wp2_with fail
      refine (alive_walk w HT.out).mono ?_
      rintro e w1 ⟨rfl, hb1⟩
      go_wp2
      go_ret
      exact ⟨rfl, hb1⟩
    · have hs3 : s.size ≤ 300 := by omega
      clear hl
      obtain ⟨t, htd⟩ : ∃ t : ByteArray, t.data.toList = Lib.decDigits a := ⟨⟨(Lib.decDigits a).toArray⟩, rfl⟩
      have Htd := Lib.hid htd
      clear htd
      by_cases hsl : 200 < s.size
      · go_enter Tryd.func7, Tryd.ntmps7
        go_wp2_with fail
        refine (parse_long' s w (by omega) hsl).mono ?_
        rintro e w' ⟨rfl, rfl⟩
        go_wp2_with fail
        refine (rparse_long s w (by omega) hsl).mono ?_
        rintro e w' ⟨rfl, rfl⟩
        go_wp2_with fail
        refine (text_n ha (by omega) (HT.out) t Htd.out).mono ?_
        rintro e w1 ⟨rfl, b⟩
        have B1 := b
        have ha := ha.below b
        clear b
        go_wp2_with fail
        refine (rtext_n ha (by omega) t Htd.out).mono ?_
        rintro e w2 ⟨rfl, b⟩
        have B2 := B1.trans (b.mono B1.size)
        have ha := ha.below b
        clear B1
        clear b
        go_wp2_with fail
        refine (same_n (Nz.nil _) (Nz.nil _) (rfl)).mono ?_
        rintro e w3 ⟨rfl, b⟩
        have B3 := B2.trans (b.mono B2.size)
        clear B2
        clear b
        go_wp2_with fail
        refine (alive_walk _ (HT.out.below B3)).mono ?_
        rintro e w4 ⟨rfl, b⟩
        have B4 := B3.trans (b.mono B3.size)
        go_wp2
        go_ret
        exact ⟨rfl, B4⟩
      · have hs2 : s.size ≤ 200 := by omega
        clear hsl
        by_cases hnum : isNum s.data.toList = true
        · have Hnum := Lib.hid hnum
          clear hnum
          go_enter Tryd.func7, Tryd.ntmps7
          go_wp2_with fail
          refine (parse_n s w (by omega) Hnum.out).mono ?_
          rintro e w1 ⟨v1, rfl, z1, b⟩
          have B1 := b
          have ha := ha.below b
          clear b
          go_wp2_with fail
          refine (rparse_n s _ (by omega) Hnum.out).mono ?_
          rintro e w2 ⟨v2, rfl, z2, b⟩
          have B2 := B1.trans (b.mono B1.size)
          have ha := ha.below b
          have z1 := z1.below b
          clear B1
          clear b
          go_wp2_with fail
          refine (text_n ha (by omega) (HT.out.below B2) t Htd.out).mono ?_
          rintro e w3 ⟨rfl, b⟩
          have B3 := B2.trans (b.mono B2.size)
          have ha := ha.below b
          have z1 := z1.below b
          have z2 := z2.below b
          clear B2
          clear b
          go_wp2_with fail
          refine (rtext_n ha (by omega) t Htd.out).mono ?_
          rintro e w4 ⟨rfl, b⟩
          have B4 := B3.trans (b.mono B3.size)
          have ha := ha.below b
          have z1 := z1.below b
          have z2 := z2.below b
          clear B3
          clear b
          go_wp2_with fail
          refine (same_n z1 z2 (rfl)).mono ?_
          rintro e w5 ⟨rfl, b⟩
          have B5 := B4.trans (b.mono B4.size)
          have z1 := z1.below b
          have z2 := z2.below b
          clear B4
          clear b
          go_wp2_with fail
          refine (alive_walk _ (HT.out.below B5)).mono ?_
          rintro e w6 ⟨rfl, b⟩
          have B6 := B5.trans (b.mono B5.size)
          go_wp2
          go_ret
          exact ⟨rfl, B6⟩
        · have Hnum : Hid (isNum s.data.toList = false) := by show _ = _; simpa using hnum
          clear hnum
          go_enter Tryd.func7, Tryd.ntmps7
          go_wp2_with fail
          refine (parse_bad s w (by omega) Hnum.out).mono ?_
          rintro e w' ⟨rfl, rfl⟩
          go_wp2_with fail
          refine (rparse_bad s w (by omega) Hnum.out).mono ?_
          rintro e w' ⟨rfl, rfl⟩
          go_wp2_with fail
          refine (text_n ha (by omega) (HT.out) t Htd.out).mono ?_
          rintro e w1 ⟨rfl, b⟩
          have B1 := b
          have ha := ha.below b
          clear b
          go_wp2_with fail
          refine (rtext_n ha (by omega) t Htd.out).mono ?_
          rintro e w2 ⟨rfl, b⟩
          have B2 := B1.trans (b.mono B1.size)
          have ha := ha.below b
          clear B1
          clear b
          go_wp2_with fail
          refine (same_n (Nz.nil _) (Nz.nil _) (rfl)).mono ?_
          rintro e w3 ⟨rfl, b⟩
          have B3 := B2.trans (b.mono B2.size)
          clear B2
          clear b
          go_wp2_with fail
          refine (alive_walk _ (HT.out.below B3)).mono ?_
          rintro e w4 ⟨rfl, b⟩
          have B4 := B3.trans (b.mono B3.size)
          go_wp2
          go_ret
          exact ⟨rfl, B4⟩
end Go.Proofs.YtldkiolkhpjhbaaDoor
