/-
  What is encoded is read back, and the other way round; a proper prefix of an encoding is cut off; more levels change no encoding; the encodings of lists and of nodes below. No program is named here.
-/
import Derived.Test.YtmklladpalcjpaaDoorCodN
namespace Go.Proofs.YtmklladpalcjpaaDoor
namespace Cod
set_option linter.unusedVariables false

theorem cat_ok {a b : Except Nat (List UInt8)} {s : List UInt8} (h : cat a b = .ok s) : ∃ u v, a = .ok u ∧ b = .ok v ∧ s = u ++ v := by
  unfold cat at h
  cases a with
  | error e => cases h
  | ok u =>
    cases b with
    | error e => cases h
    | ok v =>
      simp only [Except.ok.injEq] at h
      exact ⟨u, v, rfl, rfl, h.symm⟩
theorem wrap_ok {a : Except Nat (List UInt8)} {s : List UInt8} (h : wrap a = .ok s) : ∃ u, a = .ok u ∧ s = 40 :: (u ++ [41]) := by
  unfold wrap at h
  cases a with
  | error e => cases h
  | ok u =>
    simp only [Except.ok.injEq] at h
    exact ⟨u, rfl, h.symm⟩
/-- A valid node: a text, or a list. -/
theorem enc_ok {b : Nat} {l : Bool} {t : List UInt8} {k : List Nd} {s : List UInt8} (h : enc b (.mk l t k) = .ok s) :
    (∃ a, b = a + 1) ∧ k.length ≤ 256 ∧ (l = false ∧ k = [] ∧ s = txt t ∨ l = true ∧ t = [] ∧ ∃ u, encL (b - 1) k = .ok u ∧ s = 40 :: (u ++ [41])) := by
  rw [enc] at h
  by_cases h1 : bad l t k = true
  · rw [if_pos h1] at h; cases h
  · rw [if_neg h1] at h
    by_cases h2 : b = 0 ∨ 256 < k.length
    · rw [if_pos h2] at h; cases h
    · rw [if_neg h2] at h
      refine ⟨⟨b - 1, by omega⟩, by omega, ?_⟩
      cases l with
      | false =>
        rw [if_pos rfl] at h
        simp only [Except.ok.injEq] at h
        refine .inl ⟨rfl, ?_, h.symm⟩
        simpa [bad] using h1
      | true =>
        rw [if_neg (by simp)] at h
        exact .inr ⟨rfl, by simpa [bad] using h1, wrap_ok h⟩
theorem txt_head (t : List UInt8) : ∃ c r, txt t = c :: r ∧ isD c = true := by
  have h1 := dec_ne t.length
  have h2 := dec_all t.length
  unfold txt
  cases h : Lib.decDigits t.length with
  | nil => exact absurd h h1
  | cons c r => exact ⟨c, r ++ 58 :: t, rfl, h2 c (by rw [h]; simp)⟩
theorem enc_head {b : Nat} {n : Nd} {s : List UInt8} (h : enc b n = .ok s) : ∃ c r, s = c :: r ∧ begins c = true := by
  obtain ⟨l, t, k⟩ := n
  obtain ⟨_, _, ⟨rfl, rfl, rfl⟩ | ⟨rfl, rfl, u, _, rfl⟩⟩ := enc_ok h
  · obtain ⟨c, r, e, hc⟩ := txt_head t
    exact ⟨c, r, e, by unfold begins; rw [hc, Bool.or_true]⟩
  · exact ⟨40, _, rfl, rfl⟩
theorem isD_ne {c : UInt8} (h : isD c = true) : c ≠ 40 ∧ c ≠ 41 ∧ c ≠ 58 := by
  refine ⟨?_, ?_, ?_⟩ <;> (rintro rfl; exact absurd h (by decide))
theorem begins_ne {c : UInt8} (h : begins c = true) : c ≠ 41 := by
  rintro rfl
  exact absurd h (by decide)
theorem pN_text (b : Nat) (t m : List UInt8) (ht : t.length ≤ 20000) : pN (b + 1) (txt t ++ m) = .ok (.mk false t [], m) := by
  obtain ⟨c, r, e, hc⟩ := txt_head t
  have h := pT_ok t m ht
  rw [e] at h ⊢
  rw [List.cons_append] at h ⊢
  rw [pN, if_neg (by unfold begins; rw [hc, Bool.or_true]; simp), if_neg (isD_ne hc).1, h]
theorem txt_len (t : List UInt8) : t.length < (txt t).length := by
  unfold txt
  rw [List.length_append, List.length_cons]
  omega
mutual
theorem pN_enc : ∀ (n : Nd) (b : Nat) (s m : List UInt8), enc b n = .ok s → s.length ≤ 20000 → pN b (s ++ m) = .ok (n, m)
  | .mk l t k, b, s, m, h, hs => by
    obtain ⟨⟨a, rfl⟩, hk, ⟨rfl, rfl, rfl⟩ | ⟨rfl, rfl, u, hu, rfl⟩⟩ := enc_ok h
    · have := txt_len t
      exact pN_text a t m (by omega)
    · rw [List.length_cons, List.length_append, List.length_singleton] at hs
      have := pK_enc k a 256 u m hu (by omega) hk
      rw [List.cons_append, List.append_assoc, pN, if_neg (by decide)]
      simp only []
      rw [if_pos trivial, show [41] ++ m = 41 :: m from rfl, this]
theorem pK_enc : ∀ (k : List Nd) (b c : Nat) (s m : List UInt8), encL b k = .ok s → s.length ≤ 20000 → k.length ≤ c → pK (pN b) c (s ++ 41 :: m) = .ok (k, m)
  | [], b, c, s, m, h, hs, hc => by
    rw [encL] at h
    simp only [Except.ok.injEq] at h
    subst h
    rw [List.nil_append]
    cases c <;> rw [pK, if_pos rfl]
  | n :: r, b, c, s, m, h, hs, hc => by
    rw [encL] at h
    obtain ⟨u, v, hu, hv, rfl⟩ := cat_ok h
    rw [List.length_append] at hs
    obtain ⟨c, rfl⟩ : ∃ d, c = d + 1 := ⟨c - 1, by rw [List.length_cons] at hc; omega⟩
    have h1 := pN_enc n b u (v ++ 41 :: m) hu (by omega)
    have h2 := pK_enc r b c v m hv (by omega) (by rw [List.length_cons] at hc; omega)
    obtain ⟨x, y, e, hx⟩ := enc_head hu
    rw [List.append_assoc]
    rw [e] at h1 ⊢
    rw [List.cons_append] at h1 ⊢
    rw [pK, if_neg (begins_ne hx)]
    simp only [h1, h2]
end
/-! ### What was read is an encoding -/
theorem pK_inv (f : List UInt8 → Except Nat (Nd × List UInt8)) (b : Nat) (hf : ∀ s n r, f s = .ok (n, r) → ∃ u, enc b n = .ok u ∧ s = u ++ r) : ∀ (m : Nat) (s : List UInt8) (l : List Nd) (r : List UInt8), pK f m s = .ok (l, r) → (∃ u, encL b l = .ok u ∧ s = u ++ 41 :: r) ∧ l.length ≤ m := by
  intro m
  induction m with
  | zero =>
    intro s l r h
    cases s with
    | nil => rw [pK] at h; cases h
    | cons c s =>
      rw [pK] at h
      by_cases hc : c = 41
      · rw [if_pos hc] at h
        simp only [Except.ok.injEq, Prod.mk.injEq] at h
        obtain ⟨rfl, rfl⟩ := h
        exact ⟨⟨[], by rw [encL], by rw [hc]; rfl⟩, by simp⟩
      · rw [if_neg hc] at h
        split at h <;> cases h
  | succ m ih =>
    intro s l r h
    cases s with
    | nil => rw [pK] at h; cases h
    | cons c s =>
      rw [pK] at h
      by_cases hc : c = 41
      · rw [if_pos hc] at h
        simp only [Except.ok.injEq, Prod.mk.injEq] at h
        obtain ⟨rfl, rfl⟩ := h
        exact ⟨⟨[], by rw [encL], by rw [hc]; rfl⟩, by simp⟩
      · rw [if_neg hc] at h
        cases h1 : f (c :: s) with
        | error e => rw [h1] at h; cases h
        | ok p =>
          obtain ⟨x, r1⟩ := p
          rw [h1] at h
          simp only [] at h
          cases h2 : pK f m r1 with
          | error e => rw [h2] at h; cases h
          | ok p =>
            obtain ⟨y, r2⟩ := p
            rw [h2] at h
            simp only [Except.ok.injEq, Prod.mk.injEq] at h
            obtain ⟨rfl, rfl⟩ := h
            obtain ⟨u, hu, e1⟩ := hf _ _ _ h1
            obtain ⟨⟨v, hv, e2⟩, hl⟩ := ih _ _ _ h2
            refine ⟨⟨u ++ v, by rw [encL, hu, hv]; rfl, by rw [e1, e2, List.append_assoc]⟩, by rw [List.length_cons]; omega⟩
theorem pN_inv : ∀ (b : Nat) (s : List UInt8) (n : Nd) (r : List UInt8), pN b s = .ok (n, r) → ∃ u, enc b n = .ok u ∧ s = u ++ r := by
  intro b
  induction b with
  | zero =>
    intro s n r h
    cases s with
    | nil => rw [pN] at h; cases h
    | cons c s =>
      rw [pN] at h
      split at h <;> cases h
  | succ b ih =>
    intro s n r h
    cases s with
    | nil => rw [pN] at h; cases h
    | cons c s =>
      rw [pN] at h
      by_cases hb : begins c = false
      · rw [if_pos hb] at h; cases h
      · rw [if_neg hb] at h
        by_cases hc : c = 40
        · rw [if_pos hc] at h
          cases h1 : pK (pN b) 256 s with
          | error e => rw [h1] at h; cases h
          | ok p =>
            obtain ⟨l, r1⟩ := p
            rw [h1] at h
            simp only [Except.ok.injEq, Prod.mk.injEq] at h
            obtain ⟨rfl, rfl⟩ := h
            obtain ⟨⟨u, hu, e⟩, hl⟩ := pK_inv (pN b) b ih 256 s l r1 h1
            refine ⟨40 :: (u ++ [41]), ?_, by rw [hc, e, List.cons_append, List.append_assoc]; rfl⟩
            rw [enc, if_neg (by simp [bad]), if_neg (by omega), if_neg (by simp), Nat.add_sub_cancel, hu]
            rfl
        · rw [if_neg hc] at h
          have hd : isD c = true := by
            unfold begins at hb
            simpa [hc] using hb
          obtain ⟨t, rfl, e, ht⟩ := pT_inv c s r n hd h
          exact ⟨txt t, by rw [enc, if_neg (by simp [bad]), if_neg (by simp), if_pos rfl], e⟩
/-! ### Proper prefixes -/
theorem val_append (a : Nat) (l r : List UInt8) : val a (l ++ r) = val (val a l) r := by unfold val; rw [List.foldl_append]
theorem pT_cut (t p q : List UInt8) (ht : t.length ≤ 20000) (h : txt t = p ++ q) (hq : q ≠ []) : pT p = .error 4 := by
  unfold txt at h
  have hn := dec_num t.length
  have hv := val_dec t.length
  rcases List.append_eq_append_iff.1 h with ⟨a, e1, e2⟩ | ⟨a, e1, e2⟩
  · -- the digits and what follows
    cases a with
    | nil =>
      rw [List.append_nil] at e1
      unfold pT
      rw [e1, pD_cut _ 0 0 hn.2.1 (by rw [hv]; exact ht) (fun h => by omega) (fun _ h => hn.2.2 h)]
    | cons c a =>
      rw [List.cons_append] at e2
      injection e2 with e2 e3
      subst e2
      unfold pT
      rw [e1, pD_dec _ ht]
      simp only []
      have h2 := List.length_pos_iff.2 hq
      rw [if_pos (by rw [e3, List.length_append]; omega)]
  · -- some of the digits
    have hvp : val 0 p ≤ t.length := by
      have h2 := val_ge a (val 0 p)
      rw [← val_append, ← e1, hv] at h2
      exact h2
    unfold pT
    rw [pD_cut p 0 0 (fun c hc => hn.2.1 c (by rw [e1]; exact List.mem_append_left _ hc)) (by omega) (fun h => by omega) (fun _ h0 => ?_)]
    have h3 := hn.2.2 (by rw [e1, List.getElem?_append_left]; exact h0; cases p with | nil => simp at h0 | cons c p => simp)
    rw [e1] at h3
    cases p with
    | nil => simp at h0
    | cons c p =>
      rw [List.cons_append] at h3
      injection h3 with h4 h5
      rw [h4, (List.append_eq_nil_iff.1 h5).1]
mutual
theorem pN_cut : ∀ (n : Nd) (b : Nat) (p q : List UInt8), enc b n = .ok (p ++ q) → q ≠ [] → (p ++ q).length ≤ 20000 → pN b p = .error 4
  | .mk l t k, b, p, q, h, hq, hs => by
    obtain ⟨⟨a, rfl⟩, hk, ⟨rfl, rfl, e⟩ | ⟨rfl, rfl, u, hu, e⟩⟩ := enc_ok h
    · cases p with
      | nil => rw [pN]
      | cons c p =>
        have hlen := txt_len t
        rw [← e] at hlen
        have h1 := pT_cut t (c :: p) q (by omega) e.symm hq
        obtain ⟨c', r, e', hc⟩ := txt_head t
        rw [e'] at e
        rw [List.cons_append] at e
        injection e with e1 e2
        subst e1
        rw [pN, if_neg (by unfold begins; rw [hc, Bool.or_true]; simp)]
        rw [if_neg (isD_ne hc).1, h1]
    · cases p with
      | nil => rw [pN]
      | cons c p =>
        rw [List.cons_append] at e
        injection e with e1 e2
        subst e1
        rw [List.length_append, List.length_cons] at hs
        have h2 : ∃ q', u = p ++ q' := by
          rcases List.append_eq_append_iff.1 e2 with ⟨x, e3, e4⟩ | ⟨x, e3, e4⟩
          · exact ⟨x, e3⟩
          · cases x with
            | nil => exact ⟨[], by rw [e3, List.append_nil, List.append_nil]⟩
            | cons y x =>
              exfalso
              rw [List.cons_append] at e4
              injection e4 with _ e5
              exact hq (List.append_eq_nil_iff.1 e5.symm).2
        obtain ⟨q', rfl⟩ := h2
        have hl : (p ++ q').length ≤ 20000 := by
          have := congrArg List.length e2
          simp only [List.length_append, List.length_singleton] at this ⊢
          omega
        have h3 := pK_cut k a 256 p q' hu hl hk
        rw [pN, if_neg (by decide)]
        simp only []
        rw [if_pos trivial, h3]
theorem pK_cut : ∀ (k : List Nd) (b c : Nat) (p q : List UInt8), encL b k = .ok (p ++ q) → (p ++ q).length ≤ 20000 → k.length ≤ c → pK (pN b) c p = .error 4
  | [], b, c, p, q, h, hs, hc => by
    rw [encL] at h
    simp only [Except.ok.injEq] at h
    rw [(List.append_eq_nil_iff.1 h.symm).1]
    cases c <;> rw [pK]
  | n :: r, b, c, p, q, h, hs, hc => by
    rw [encL] at h
    obtain ⟨u, v, hu, hv, e⟩ := cat_ok h
    obtain ⟨c, rfl⟩ : ∃ d, c = d + 1 := ⟨c - 1, by rw [List.length_cons] at hc; omega⟩
    rw [List.length_cons] at hc
    rw [e, List.length_append] at hs
    rcases List.append_eq_append_iff.1 e with ⟨a, e1, e2⟩ | ⟨a, e1, e2⟩
    · cases a with
      | nil =>
        rw [List.append_nil] at e1
        subst e1
        have h1 := pN_enc n b u [] hu (by omega)
        rw [List.append_nil] at h1
        obtain ⟨x, y, e, hx⟩ := enc_head hu
        rw [e] at h1 ⊢
        rw [pK, if_neg (begins_ne hx)]
        simp only [h1]
        cases c <;> rw [pK]
      | cons z a =>
        cases p with
        | nil => rw [pK]
        | cons y p =>
          rw [e1] at hu
          have h1 := pN_cut n b (y :: p) (z :: a) hu (by simp) (by rw [← e1]; omega)
          obtain ⟨x, y', e, hx⟩ := enc_head hu
          rw [List.cons_append] at e
          injection e with e3 _
          subst e3
          rw [pK, if_neg (begins_ne hx)]
          simp only [h1]
    · subst e1
      have h1 := pN_enc n b u a hu (by omega)
      rw [e2] at hv
      have h2 := pK_cut r b c a q hv (by rw [← e2]; omega) (by omega)
      obtain ⟨x, y, e, hx⟩ := enc_head hu
      rw [e] at h1 ⊢
      rw [List.cons_append] at h1 ⊢
      rw [pK, if_neg (begins_ne hx)]
      simp only [h1, h2]
end
end Cod
end Go.Proofs.YtmklladpalcjpaaDoor
