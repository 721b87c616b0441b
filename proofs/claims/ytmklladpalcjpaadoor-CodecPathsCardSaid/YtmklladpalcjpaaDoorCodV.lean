/-
  The walks of the reader of codec's Decode: peek, skip, isDigit, length, text. An error leaves by a panic.
-/
import Derived.Test.YtmklladpalcjpaaDoorCodE
import Derived.Test.YtmklladpalcjpaaDoorCodA
import Derived.Defers
import Derived.Recover
namespace Go.Proofs.YtmklladpalcjpaaDoor
open Go.RowKit Cod
set_option linter.unusedVariables false

/-- Leaving by a panic with the error x. -/
abbrev PanE (x : Nat) : Ending := .panicked [{ v := .iface 26 (.int .i64 (x : Int)), recovered := false }]
/-- The reader in block g: L is still to be read. -/
def Rr (w : World) (g : Nat) (L : List UInt8) : Prop := w.cell? ⟨g, 0, none⟩ = some (.string (ofL L)) ∧ w.frozen? ⟨g, 0, none⟩ = false
theorem Rr.lt {w : World} {g : Nat} {L : List UInt8} (h : Rr w g L) : g < w.heap.size := World.block_lt_of_cell? w _ h.1
theorem Rr.put {w : World} {g : Nat} {L : List UInt8} (h : Rr w g L) (r : List UInt8) : Rr (w.setCell ⟨g, 0, none⟩ (.string (ofL r))) g r :=
  ⟨World.cell?_setCell_same _ _ _ h.1, by simpa using h.2⟩
theorem Rr.below {w w' : World} {g : Nat} {L : List UInt8} (h : Rr w g L) (hb : Below w.heap.size w w') : Rr w' g L :=
  ⟨cell_below h.1 hb, (hb.frozen (p := ⟨g, 0, none⟩) h.lt).trans h.2⟩
/-- Nothing but the reader has changed. -/
abbrev Kp (g : Nat) (w w' : World) : Prop := w.grownBy w' (some g)
theorem Kp.refl (g : Nat) (w : World) : Kp g w w := ⟨rfl, rfl, rfl, Nat.le_refl _, fun _ _ _ => rfl⟩
theorem Kp.trans {g : Nat} {a b c : World} (h : Kp g a b) (k : Kp g b c) : Kp g a c :=
  ⟨k.os.trans h.os, k.tape.trans h.tape, k.output.trans h.output, Nat.le_trans h.size k.size, fun i hi hn => (k.block i (Nat.lt_of_lt_of_le hi h.size) hn).trans (h.block i hi hn)⟩
theorem Kp.put (g : Nat) (w : World) (u : Value) : Kp g w (w.setCell ⟨g, 0, none⟩ u) :=
  ⟨rfl, rfl, rfl, by simp [World.setCell], fun k _ hk => Below.heap_setCell _ _ _ _ (fun e => hk (by simp [e]))⟩
theorem Kp.of_below {g : Nat} {w w' : World} (h : Below w.heap.size w w') : Kp g w w' := ⟨h.os, h.tape, h.output, h.size, fun k hk _ => h.block k hk⟩
theorem ofL_cons_size (c : UInt8) (r : List UInt8) : (ofL (c :: r)).size = r.length + 1 := by rw [ofL_size, List.length_cons]
theorem ofL_tail (c : UInt8) (r : List UInt8) (n : Nat) (hn : n = r.length + 1) : (ofL (c :: r)).extract 1 n = ofL r := by
  subst hn
  have h := extract_L (ofL (c :: r)) 1 r.length
  rw [show 1 + r.length = r.length + 1 by omega] at h
  rw [h, ofL_data]
  simp
theorem ofL_get (c : UInt8) (r : List UInt8) (h : 0 < (ofL (c :: r)).size) : (ofL (c :: r))[0] = c := by
  have := byte_L (ofL (c :: r)) 0 h
  rw [ofL_data] at this
  simpa using this.symm
theorem ofL_cons_ne (c : UInt8) (r : List UInt8) : ¬ (ofL (c :: r)).toList = [] := fun e => by
  rw [ByteArray.toList_eq, ofL_data] at e
  cases e
set_option maxRecDepth 20000 in
theorem peek_nil (g : Nat) (w : World) (h : Rr w g []) : Calls Tryd.prog 34 #[.pointer (some ⟨g, 0, none⟩)] w fun e w' => e = PanE 4 ∧ w = w' := by
  have h0 : w.cell? ⟨g, 0, none⟩ = some (.string ⟨#[]⟩) := h.1
  go_enter Tryd.func34, Tryd.ntmps34
  go_wp2
  exact ⟨rfl, rfl, rfl⟩
set_option maxRecDepth 20000 in
theorem peek_at (g : Nat) (s : ByteArray) (w : World) (h0 : w.cell? ⟨g, 0, none⟩ = some (.string s)) (hlt : 0 < s.size) (hne : (s.toList == []) = false) : Calls Tryd.prog 34 #[.pointer (some ⟨g, 0, none⟩)] w fun e w' => e = .returned (.int .u8 (s[0].toNat : Int)) ∧ w = w' := by
  go_enter Tryd.func34, Tryd.ntmps34
  go_wp2
  go_ret
  exact ⟨rfl, rfl⟩
theorem peek_cons (g : Nat) (c : UInt8) (r : List UInt8) (w : World) (h : Rr w g (c :: r)) : Calls Tryd.prog 34 #[.pointer (some ⟨g, 0, none⟩)] w fun e w' => e = .returned (.int .u8 (c.toNat : Int)) ∧ w = w' := by
  have hlt : 0 < (ofL (c :: r)).size := by rw [ofL_size]; simp
  refine (peek_at g (ofL (c :: r)) w h.1 hlt (beq_eq_false_iff_ne.2 (ofL_cons_ne c r))).mono ?_
  rintro e w' ⟨rfl, rfl⟩
  rw [ofL_get c r hlt]
  exact ⟨rfl, rfl⟩
set_option maxRecDepth 20000 in
theorem skip_cons (g : Nat) (c : UInt8) (r : List UInt8) (w : World) (h : Rr w g (c :: r)) (hl : r.length ≤ 20000) : Calls Tryd.prog 40 #[.pointer (some ⟨g, 0, none⟩)] w fun e w' => e = .returned (.tuple #[]) ∧ w' = w.setCell ⟨g, 0, none⟩ (.string (ofL r)) := by
  obtain ⟨h0, hz⟩ := h
  have hsz := ofL_cons_size c r
  have ht := ofL_tail c r (r.length + 1) rfl
  obtain ⟨s, hs⟩ : ∃ s, ofL (c :: r) = s := ⟨_, rfl⟩
  rw [hs] at h0 hsz ht
  clear hs
  go_enter Tryd.func40, Tryd.ntmps40
  go_wp2
  go_end0
  exact ⟨rfl, by rw [← ht]⟩
set_option maxRecDepth 20000 in
theorem isDigit_walk (c : UInt8) (w : World) : Calls Tryd.prog 35 #[.int .u8 (c.toNat : Int)] w fun e w' => e = .returned (.bool (isD c)) ∧ w = w' := by
  go_enter Tryd.func35, Tryd.ntmps35
  by_cases h2 : (c.toNat : Int) < 48
  · have hb : Hid (isD c = false) := by
      show _ = _
      simp [isD]
      omega
    have h2' : decide ((48 : Int) ≤ (c.toNat : Int)) = false := decide_eq_false (by omega)
    go_wp2
    go_ret
    rw [hb.out]
    exact ⟨rfl, rfl⟩
  · by_cases h3 : (57 : Int) < (c.toNat : Int)
    · have hb : Hid (isD c = false) := by
        show _ = _
        simp [isD]
        omega
      have h2' : decide ((48 : Int) ≤ (c.toNat : Int)) = true := decide_eq_true (by omega)
      have h3' : decide ((c.toNat : Int) ≤ 57) = false := decide_eq_false (by omega)
      go_wp2
      go_ret
      rw [hb.out]
      exact ⟨rfl, rfl⟩
    · have hb : Hid (isD c = true) := by
        show _ = _
        simp [isD]
        omega
      have h2' : decide ((48 : Int) ≤ (c.toNat : Int)) = true := decide_eq_true (by omega)
      have h3' : decide ((c.toNat : Int) ≤ 57) = true := decide_eq_true (by omega)
      go_wp2
      go_ret
      rw [hb.out]
      exact ⟨rfl, rfl⟩
/-! ### Lengths -/
/-- Between the rounds of length: N so far, D digits read, l still to be read. -/
def LnA (L : List UInt8) (N D : Nat) (l : List UInt8) : Prop := ∃ q, pD 0 0 L = pD N q l ∧ (q = 1 ↔ 0 < D ∧ N = 0) ∧ (q = 0 ↔ D = 0) ∧ (D = 0 → N = 0)
theorem LnA.start (L : List UInt8) : LnA L 0 0 L := ⟨0, rfl, by omega, by omega, fun _ => rfl⟩
theorem LnA.step {L r : List UInt8} {N D : Nat} {c : UInt8} (h : LnA L N D (c :: r)) (hd : isD c = true) (hq : ¬ (0 < D ∧ N = 0)) (hb : 10 * N + (c.toNat - 48) ≤ 20000) : LnA L (10 * N + (c.toNat - 48)) (D + 1) r := by
  obtain ⟨q, h1, h2, h3, h4⟩ := h
  have hq1 : ¬ q = 1 := fun e => hq (h2.1 e)
  have hd' := (isD_iff c).1 hd
  rw [pD, if_pos hd, if_neg hq1, if_neg (by omega)] at h1
  refine ⟨_, h1, ?_, ?_, fun h => by omega⟩
  · by_cases hc : q = 0 ∧ c = 48
    · rw [if_pos hc]
      have hN := h4 (h3.1 hc.1)
      have h48 : c.toNat = 48 := by rw [hc.2]; rfl
      exact ⟨fun _ => ⟨by omega, by omega⟩, fun _ => rfl⟩
    · rw [if_neg hc]
      refine ⟨fun h => by omega, fun ⟨h5, h6⟩ => ?_⟩
      exfalso
      have hN : N = 0 := by omega
      have hc48 : c = 48 := UInt8.toNat_inj.1 (by have : (48 : UInt8).toNat = 48 := rfl; omega)
      have hD : ¬ 0 < D := fun h => hq ⟨h, hN⟩
      exact hc ⟨h3.2 (by omega), hc48⟩
  · split <;> omega
theorem LnA.two {L r : List UInt8} {N D : Nat} {c : UInt8} (h : LnA L N D (c :: r)) (hd : isD c = true) (hq : 0 < D ∧ N = 0) : pD 0 0 L = .error 2 := by
  obtain ⟨q, h1, h2, h3, h4⟩ := h
  rw [h1, pD, if_pos hd, if_pos (h2.2 hq)]
theorem LnA.five {L r : List UInt8} {N D : Nat} {c : UInt8} (h : LnA L N D (c :: r)) (hd : isD c = true) (hq : ¬ (0 < D ∧ N = 0)) (hb : 20000 < 10 * N + (c.toNat - 48)) : pD 0 0 L = .error 5 := by
  obtain ⟨q, h1, h2, h3, h4⟩ := h
  rw [h1, pD, if_pos hd, if_neg (fun e => hq (h2.1 e)), if_pos hb]
theorem LnA.four {L : List UInt8} {N D : Nat} (h : LnA L N D []) : pD 0 0 L = .error 4 := by
  obtain ⟨q, h1, h2, h3, h4⟩ := h
  rw [h1, pD]
theorem LnA.other {L r : List UInt8} {N D : Nat} {c : UInt8} (h : LnA L N D (c :: r)) (hd : isD c = false) (hc : ¬ c = 58) : pD 0 0 L = .error 2 := by
  obtain ⟨q, h1, h2, h3, h4⟩ := h
  rw [h1, pD, if_neg (by simp [hd]), if_neg hc]
theorem LnA.colon {L r : List UInt8} {N D : Nat} {c : UInt8} (h : LnA L N D (c :: r)) (hc : c = 58) : pD 0 0 L = .ok (N, r) := by
  subst hc
  obtain ⟨q, h1, h2, h3, h4⟩ := h
  rw [h1, pD, if_neg (by decide), if_pos rfl]
/-- What length leaves. -/
def LenEnd (g : Nat) (R : Except Nat (Nat × List UInt8)) (w : World) (e : Ending) (w' : World) : Prop :=
  match R with
  | .ok (n, r) => e = .returned (.int .i64 (n : Int)) ∧ n ≤ 20000 ∧ Rr w' g r ∧ Kp g w w'
  | .error x => e = PanE x ∧ Kp g w w'
theorem LenEnd.err {g : Nat} {R : Except Nat (Nat × List UInt8)} {w w' : World} {x : Nat} (h : R = .error x) (hk : Kp g w w') : LenEnd g R w (PanE x) w' := by subst h; exact ⟨rfl, hk⟩
theorem LenEnd.yes {g n : Nat} {R : Except Nat (Nat × List UInt8)} {w w' : World} {r : List UInt8} (h : R = .ok (n, r)) (hn : n ≤ 20000) (hr : Rr w' g r) (hk : Kp g w w') : LenEnd g R w (.returned (.int .i64 (n : Int))) w' := by subst h; exact ⟨rfl, hn, hr, hk⟩
set_option maxRecDepth 20000 in
set_option maxHeartbeats 2000000 in
theorem length_walk (g : Nat) (L : List UInt8) (w : World) (h : Rr w g L) (hl : L.length ≤ 20000) : Calls Tryd.prog 41 #[.pointer (some ⟨g, 0, none⟩)] w (LenEnd g (pD 0 0 L) w) := by
  have hA := Lib.hid (LnA.start L)
  have K := Kp.refl g w
  obtain ⟨T, hT⟩ : ∃ T, pD 0 0 L = T := ⟨_, rfl⟩
  rw [hT]
  have HT := Lib.hid hT
  clear hT
  go_enter Tryd.func41, Tryd.ntmps41
  go_wp2
  go_loopw [3, 4] (fun y z wr => ∃ (N D : Nat) (l : List UInt8), y = .int .i64 (N : Int) ∧ z = .int .i64 (D : Int) ∧ D + l.length = L.length ∧ N ≤ 20000 ∧ Hid (LnA L N D l) ∧ Rr wr g l ∧ Kp g w wr) (fun _ z _ => L.length - (intOf z).toNat)
  case atStart => exact ⟨0, 0, L, rfl, rfl, by omega, by omega, hA, h, K⟩
  case round =>
    clear h hA K
    obtain ⟨N, D, l, rfl, rfl, hDl, hN, hA, hr, K⟩ := hrel
    cases l with
    | nil =>
      have hT := Lib.hid (HT.out.symm.trans hA.out.four)
      go_wp2_with (first | (go_at_call 34; (with_reducible refine (peek_nil g _ hr).mono ?_); rintro e w1 ⟨rfl, rfl⟩))
      exact ⟨rfl, LenEnd.err hT.out K⟩
    | cons c r =>
      rw [List.length_cons] at hDl
      cases hd : isD c with
      | false =>
        have Hd := Lib.hid hd
        by_cases hc : c = 58
        · have hT := Lib.hid (HT.out.symm.trans (hA.out.colon hc))
          have hcb : ((c.toNat : Int) != 58) = false := by rw [hc]; rfl
          clear hc hd
          go_wp2_with (first | (go_at_call 34; (with_reducible refine (peek_cons g c r _ hr).mono ?_); rintro e w1 ⟨rfl, rfl⟩) | (go_at_call 35; (with_reducible refine (isDigit_walk c _).mono ?_); rw [Hd.out]; rintro e w2 ⟨rfl, rfl⟩) | (go_at_call 40; (with_reducible refine (skip_cons g c r _ hr (by omega)).mono ?_); rintro e w3 ⟨rfl, rfl⟩; have K := K.trans (Kp.put g _ (.string (ofL r))); have hr := hr.put r))
          go_ret
          exact LenEnd.yes hT.out hN hr K
        · have hT := Lib.hid (HT.out.symm.trans (hA.out.other hd hc))
          have hcb : ((c.toNat : Int) != 58) = true := by
            have : ¬ c.toNat = 58 := fun e => hc (UInt8.toNat_inj.1 e)
            simp
            omega
          clear hc hd
          go_wp2_with (first | (go_at_call 34; (with_reducible refine (peek_cons g c r _ hr).mono ?_); rintro e w1 ⟨rfl, rfl⟩) | (go_at_call 35; (with_reducible refine (isDigit_walk c _).mono ?_); rw [Hd.out]; rintro e w2 ⟨rfl, rfl⟩))
          exact ⟨rfl, LenEnd.err hT.out K⟩
      | true =>
        have Hd := Lib.hid hd
        have hd2 := (isD_iff c).1 hd
        have hd3 : ¬ (c.toNat : Int) < 48 := by omega
        have hd4 : ¬ (57 : Int) < (c.toNat : Int) := by omega
        by_cases hD0 : 0 < D
        · have hDb : decide (0 < D) = true := decide_eq_true hD0
          by_cases hN0 : N = 0
          · have hT := Lib.hid (HT.out.symm.trans (hA.out.two hd ⟨hD0, hN0⟩))
            have hNb : ((N : Int) == 0) = true := by rw [hN0]; rfl
            clear hd hd2 hD0 hN0
            go_wp2_with (first | (go_at_call 34; (with_reducible refine (peek_cons g c r _ hr).mono ?_); rintro e w1 ⟨rfl, rfl⟩) | (go_at_call 35; (with_reducible refine (isDigit_walk c _).mono ?_); rw [Hd.out]; rintro e w2 ⟨rfl, rfl⟩))
            exact ⟨rfl, LenEnd.err hT.out K⟩
          · have hNb : ((N : Int) == 0) = false := by simp; omega
            have hQ : Hid (¬ (0 < D ∧ N = 0)) := fun h => hN0 h.2
            by_cases hb : 20000 < 10 * N + (c.toNat - 48)
            · have hT := Lib.hid (HT.out.symm.trans (hA.out.five hd hQ.out hb))
              clear hd hd2
              go_wp2_with (first | (go_at_call 34; (with_reducible refine (peek_cons g c r _ hr).mono ?_); rintro e w1 ⟨rfl, rfl⟩) | (go_at_call 35; (with_reducible refine (isDigit_walk c _).mono ?_); rw [Hd.out]; rintro e w2 ⟨rfl, rfl⟩))
              exact ⟨rfl, LenEnd.err hT.out K⟩
            · have hS := Lib.hid (hA.out.step hd hQ.out (by omega))
              clear hd hd2
              go_wp2_with (first | (go_at_call 34; (with_reducible refine (peek_cons g c r _ hr).mono ?_); rintro e w1 ⟨rfl, rfl⟩) | (go_at_call 35; (with_reducible refine (isDigit_walk c _).mono ?_); rw [Hd.out]; rintro e w2 ⟨rfl, rfl⟩) | (go_at_call 40; (with_reducible refine (skip_cons g c r _ hr (by omega)).mono ?_); rintro e w3 ⟨rfl, rfl⟩; have K := K.trans (Kp.put g _ (.string (ofL r))); have hr := hr.put r))
              go_roundw
              case rel => exact ⟨10 * N + (c.toNat - 48), D + 1, r, by go_num, by go_num, by omega, by omega, hS, hr, K⟩
              case measure => simp [intOf]; omega
        · have hDb : decide (0 < D) = false := decide_eq_false hD0
          have hQ : Hid (¬ (0 < D ∧ N = 0)) := fun h => hD0 h.1
          by_cases hb : 20000 < 10 * N + (c.toNat - 48)
          · have hT := Lib.hid (HT.out.symm.trans (hA.out.five hd hQ.out hb))
            clear hd hd2
            go_wp2_with (first | (go_at_call 34; (with_reducible refine (peek_cons g c r _ hr).mono ?_); rintro e w1 ⟨rfl, rfl⟩) | (go_at_call 35; (with_reducible refine (isDigit_walk c _).mono ?_); rw [Hd.out]; rintro e w2 ⟨rfl, rfl⟩))
            exact ⟨rfl, LenEnd.err hT.out K⟩
          · have hS := Lib.hid (hA.out.step hd hQ.out (by omega))
            clear hd hd2
            go_wp2_with (first | (go_at_call 34; (with_reducible refine (peek_cons g c r _ hr).mono ?_); rintro e w1 ⟨rfl, rfl⟩) | (go_at_call 35; (with_reducible refine (isDigit_walk c _).mono ?_); rw [Hd.out]; rintro e w2 ⟨rfl, rfl⟩) | (go_at_call 40; (with_reducible refine (skip_cons g c r _ hr (by omega)).mono ?_); rintro e w3 ⟨rfl, rfl⟩; have K := K.trans (Kp.put g _ (.string (ofL r))); have hr := hr.put r))
            go_roundw
            case rel => exact ⟨10 * N + (c.toNat - 48), D + 1, r, by go_num, by go_num, by omega, by omega, hS, hr, K⟩
            case measure => simp [intOf]; omega
end Go.Proofs.YtmklladpalcjpaaDoor
