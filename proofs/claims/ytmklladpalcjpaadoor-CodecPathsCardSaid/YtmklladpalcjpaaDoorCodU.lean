/-
  The walk of the reader's text.
-/
import Derived.Test.YtmklladpalcjpaaDoorCodV
namespace Go.Proofs.YtmklladpalcjpaaDoor
open Go.RowKit Cod
set_option linter.unusedVariables false

/-- What text leaves. -/
def TxtEnd (g : Nat) (R : Except Nat (Nd × List UInt8)) (w : World) (e : Ending) (w' : World) : Prop :=
  match R with
  | .ok (n, r) => ∃ t, n = .mk false t [] ∧ e = .returned (.string (ofL t)) ∧ t.length ≤ 20000 ∧ Rr w' g r ∧ Kp g w w'
  | .error x => e = PanE x ∧ Kp g w w'
theorem TxtEnd.err {g : Nat} {R : Except Nat (Nd × List UInt8)} {w w' : World} {x : Nat} (h : R = .error x) (hk : Kp g w w') : TxtEnd g R w (PanE x) w' := by subst h; exact ⟨rfl, hk⟩
theorem pD_rest {L r : List UInt8} {n : Nat} (h : pD 0 0 L = .ok (n, r)) : r.length ≤ L.length := by
  obtain ⟨l, e, _⟩ := pD_inv L 0 0 n r h
  rw [e, List.length_append, List.length_cons]
  omega
theorem ofL_head (r : List UInt8) (n : Nat) : (ofL r).extract 0 n = ofL (r.take n) := by
  have h := extract_L (ofL r) 0 n
  rw [Nat.zero_add] at h
  rw [h, ofL_data, List.drop_zero]
theorem ofL_rest (r : List UInt8) (n : Nat) (h : n ≤ r.length) : (ofL r).extract n r.length = ofL (r.drop n) := by
  have h := extract_L (ofL r) n (r.length - n)
  rw [show n + (r.length - n) = r.length by omega] at h
  rw [h, ofL_data, List.take_of_length_le (by simp)]
set_option maxRecDepth 20000 in
set_option maxHeartbeats 1000000 in
theorem text_walk (g : Nat) (L : List UInt8) (w : World) (h : Rr w g L) (hl : L.length ≤ 20000) : Calls Tryd.prog 37 #[.pointer (some ⟨g, 0, none⟩)] w (TxtEnd g (pT L) w) := by
  cases hp : pD 0 0 L with
  | error x =>
    have HW := length_walk g L w h hl
    rw [hp] at HW
    have hT := Lib.hid (pT_err hp)
    have HW := Lib.hid HW
    clear hp h
    go_enter Tryd.func37, Tryd.ntmps37
    go_wp2_with (first | (go_at_call 41; (with_reducible refine HW.out.mono ?_); rintro e w1 ⟨rfl, K⟩))
    exact ⟨rfl, TxtEnd.err hT.out K⟩
  | ok q =>
    obtain ⟨n, r⟩ := q
    have HW := length_walk g L w h hl
    rw [hp] at HW
    have hrl := pD_rest hp
    obtain ⟨s, hs⟩ : ∃ s, ofL r = s := ⟨_, rfl⟩
    have hsz : s.size = r.length := by rw [← hs, ofL_size]
    by_cases hshort : r.length < n
    · have hT := Lib.hid (pT_four hp hshort)
      have HW := Lib.hid HW
      have Hs := Lib.hid hs
      clear hp h hs
      go_enter Tryd.func37, Tryd.ntmps37
      go_wp2_with (first | (go_at_call 41; (with_reducible refine HW.out.mono ?_); rintro e w1 ⟨rfl, hn, hr, K⟩; have h0 := hr.1; rw [Hs.out] at h0))
      exact ⟨rfl, TxtEnd.err hT.out K⟩
    · have hT := Lib.hid (pT_yes hp hshort)
      have hE := Lib.hid (ofL_head r n)
      have hF := Lib.hid (ofL_rest r n (by omega))
      have htl : Hid ((r.take n).length ≤ 20000) := by show _ ≤ _; rw [List.length_take]; omega
      have HW := Lib.hid HW
      have Hs := Lib.hid hs
      have hle : n ≤ r.length := by omega
      clear hp h hs
      go_enter Tryd.func37, Tryd.ntmps37
      go_wp2_with (first | (go_at_call 41; (with_reducible refine HW.out.mono ?_); rintro e w1 ⟨rfl, hn, hr, K⟩; have h0 := hr.1; have hz := hr.2; rw [Hs.out] at h0))
      go_ret
      rw [hT.out]
      refine ⟨r.take n, rfl, ?_, htl.out, ?_, ?_⟩
      · rw [← hE.out, Hs.out]
        rfl
      · have := hr.put (r.drop n)
        rw [← hF.out, Hs.out] at this
        exact this
      · exact K.trans (Kp.put g _ _)
end Go.Proofs.YtmklladpalcjpaaDoor
