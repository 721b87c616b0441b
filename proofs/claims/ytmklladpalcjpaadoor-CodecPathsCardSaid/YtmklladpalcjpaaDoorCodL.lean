/-
  The walk of the reader's node and tree.
-/
import Derived.Test.YtmklladpalcjpaaDoorCodY
namespace Go.Proofs.YtmklladpalcjpaaDoor
open Go.RowKit Cod
set_option linter.unusedVariables false

theorem nodeR_list (b idx : Nat) (c : UInt8) (r : List UInt8) (h : ¬ 256 ≤ idx) (hc : c = 40) : nodeR (b + 1) idx (c :: r) = match pK (pN b) 256 r with
    | .error e => .error e
    | .ok (l, r') => .ok (.mk true [] l, r') := by
  rw [nodeR_in _ _ _ h, hc, pN, if_neg (by decide)]
  rfl
theorem nodeR_text (b idx : Nat) (c : UInt8) (r : List UInt8) (h : ¬ 256 ≤ idx) (hb : begins c = true) (hc : ¬ c = 40) : nodeR (b + 1) idx (c :: r) = pT (c :: r) := by
  rw [nodeR_in _ _ _ h, pN_txt b c r hb hc]
theorem begins_digit {c : UInt8} (hc : ¬ c = 40) : begins c = isD c := by
  unfold begins
  have : (c == 40) = false := by simp [hc]
  rw [this, Bool.false_or]
theorem begins_open {c : UInt8} (hc : c = 40) : begins c = true := by rw [hc]; rfl
theorem neq40 {c : UInt8} (hc : ¬ c = 40) : ((c.toNat : Int) != 40) = true := by
  have : ¬ c.toNat = 40 := fun e => hc (UInt8.toNat_inj.1 e)
  simp
  omega
theorem eq40 {c : UInt8} (hc : ¬ c = 40) : ((c.toNat : Int) == 40) = false := by
  have : ¬ c.toNat = 40 := fun e => hc (UInt8.toNat_inj.1 e)
  simp
  omega
/-- A node in the result's box. -/
theorem node_yes {g : Nat} {R : Except Nat (Nd × List UInt8)} {w wa w2 : World} {n : Nd} {r : List UInt8} {l : Bool} {t : ByteArray} {A : Option Addr} {m c : Nat} (hR : R = .ok (n, r)) (hM : RdM (fun k => wa.heap.size ≤ k) w2 n (.agg #[.bool l, .string t, .slice A m c])) (hs : w.heap.size < wa.heap.size) (hr : Rr w2 g r) (hg : g < w.heap.size) (K : Kp g w w2) :
    NodeEnd g R w (.returned (.agg #[.bool l, .string t, .slice A m c])) (((w2.setCell ⟨w.heap.size, 0, none⟩ (.bool l)).setCell ⟨w.heap.size, 1, none⟩ (.string t)).setCell ⟨w.heap.size, 2, none⟩ (.slice A m c)) := by
  subst hR
  refine ⟨l, t, A, m, c, rfl, ?_, ((hr.set (by omega) _ _).set (by omega) _ _).set (by omega) _ _, ((K.set (Nat.le_refl _) _ _).set (Nat.le_refl _) _ _).set (Nat.le_refl _) _ _⟩
  exact (((hM.put _ _ (by show ¬ _ ≤ _; omega) _).put _ _ (by show ¬ _ ≤ _; omega) _).put _ _ (by show ¬ _ ≤ _; omega) _).mono (fun k (hk : wa.heap.size ≤ k) => (by omega : w.heap.size ≤ k))

set_option maxRecDepth 20000 in
set_option maxHeartbeats 1000000 in
theorem node_four (b g idx : Nat) (z : Int) (w : World) (hr : Rr w g []) :
    Calls Tryd.prog 28 #[.pointer (some ⟨g, 0, none⟩), .int .i64 z, .int .i64 (idx : Int)] w (NodeEnd g (nodeR b idx []) w) := by
  have hT := Lib.hid (nodeR_nil b idx)
  have B0 := up_1 w (.cells #[.bool false, .string ⟨#[]⟩, .slice none 0 0] 25)
  have hg := hr.lt
  have hr := hr.below B0
  have K := Kp.of_below (g := g) B0
  go_enter Tryd.func28, Tryd.ntmps28
  go_wp2_with (first | (go_at_call 34; (with_reducible refine (peek_nil g _ hr).mono ?_); rintro e w1 ⟨rfl, rfl⟩))
  exact ⟨rfl, NodeEnd.err hT.out K⟩

set_option maxRecDepth 20000 in
set_option maxHeartbeats 1000000 in
theorem node_two (b g idx : Nat) (z : Int) (c : UInt8) (r : List UInt8) (w : World) (hr : Rr w g (c :: r)) (hb : begins c = false) :
    Calls Tryd.prog 28 #[.pointer (some ⟨g, 0, none⟩), .int .i64 z, .int .i64 (idx : Int)] w (NodeEnd g (nodeR b idx (c :: r)) w) := by
  have hT := Lib.hid (nodeR_two b idx c r hb)
  have hc : ¬ c = 40 := fun e => by rw [begins_open e] at hb; cases hb
  have Hd : Hid (isD c = false) := by
    show _ = _
    rw [← begins_digit hc, hb]
  have hcb := neq40 hc
  clear hb hc
  have B0 := up_1 w (.cells #[.bool false, .string ⟨#[]⟩, .slice none 0 0] 25)
  have hg := hr.lt
  have hr := hr.below B0
  have K := Kp.of_below (g := g) B0
  go_enter Tryd.func28, Tryd.ntmps28
  go_wp2_with (first | (go_at_call 34; (with_reducible refine (peek_cons g c r _ hr).mono ?_); rintro e w1 ⟨rfl, rfl⟩) | (go_at_call 35; (with_reducible refine (isDigit_walk c _).mono ?_); rw [Hd.out]; rintro e w2 ⟨rfl, rfl⟩))
  exact ⟨rfl, NodeEnd.err hT.out K⟩

set_option maxRecDepth 20000 in
set_option maxHeartbeats 1000000 in
theorem node_five (b g idx : Nat) (z : Int) (c : UInt8) (r : List UInt8) (w : World) (hr : Rr w g (c :: r)) (hb : begins c = true) (hbi : b = 0 ∨ 256 ≤ idx) (hz : z + (b : Int) = 13) :
    Calls Tryd.prog 28 #[.pointer (some ⟨g, 0, none⟩), .int .i64 z, .int .i64 (idx : Int)] w (NodeEnd g (nodeR b idx (c :: r)) w) := by
  have hT := Lib.hid (nodeR_five b idx c r hb hbi)
  have B0 := up_1 w (.cells #[.bool false, .string ⟨#[]⟩, .slice none 0 0] 25)
  have hg := hr.lt
  have hr := hr.below B0
  have K := Kp.of_below (g := g) B0
  by_cases hc : c = 40
  · have hcb : ((c.toNat : Int) != 40) = false := by rw [hc]; rfl
    have hcb' : ((c.toNat : Int) == 40) = true := by rw [hc]; rfl
    by_cases h12 : 12 < z
    · clear hc hb hbi hz
      go_enter Tryd.func28, Tryd.ntmps28
      go_wp2_with (first | (go_at_call 34; (with_reducible refine (peek_cons g c r _ hr).mono ?_); rintro e w1 ⟨rfl, rfl⟩))
      exact ⟨rfl, NodeEnd.err hT.out K⟩
    · have hi : 256 ≤ idx := by rcases hbi with h | h <;> omega
      clear hc hb hbi hz
      go_enter Tryd.func28, Tryd.ntmps28
      go_wp2_with (first | (go_at_call 34; (with_reducible refine (peek_cons g c r _ hr).mono ?_); rintro e w1 ⟨rfl, rfl⟩))
      exact ⟨rfl, NodeEnd.err hT.out K⟩
  · have Hd : Hid (isD c = true) := by
      show _ = _
      rw [← begins_digit hc, hb]
    have hcb := neq40 hc
    have hcb' := eq40 hc
    by_cases h12 : 12 < z
    · clear hc hb hbi hz
      go_enter Tryd.func28, Tryd.ntmps28
      go_wp2_with (first | (go_at_call 34; (with_reducible refine (peek_cons g c r _ hr).mono ?_); rintro e w1 ⟨rfl, rfl⟩) | (go_at_call 35; (with_reducible refine (isDigit_walk c _).mono ?_); rw [Hd.out]; rintro e w2 ⟨rfl, rfl⟩))
      exact ⟨rfl, NodeEnd.err hT.out K⟩
    · have hi : 256 ≤ idx := by rcases hbi with h | h <;> omega
      clear hc hb hbi hz
      go_enter Tryd.func28, Tryd.ntmps28
      go_wp2_with (first | (go_at_call 34; (with_reducible refine (peek_cons g c r _ hr).mono ?_); rintro e w1 ⟨rfl, rfl⟩) | (go_at_call 35; (with_reducible refine (isDigit_walk c _).mono ?_); rw [Hd.out]; rintro e w2 ⟨rfl, rfl⟩))
      exact ⟨rfl, NodeEnd.err hT.out K⟩

set_option maxRecDepth 20000 in
set_option maxHeartbeats 1000000 in
theorem node_text (b g idx : Nat) (z : Int) (c : UInt8) (r : List UInt8) (w : World) (hr : Rr w g (c :: r)) (hl : r.length ≤ 19999) (hb : begins c = true) (hc : ¬ c = 40) (hi : ¬ 256 ≤ idx) (hz : z ≤ 12) :
    Calls Tryd.prog 28 #[.pointer (some ⟨g, 0, none⟩), .int .i64 z, .int .i64 (idx : Int)] w (NodeEnd g (nodeR (b + 1) idx (c :: r)) w) := by
  have hT0 := nodeR_text b idx c r hi hb hc
  have kr := Bn.new w (.bool false) (.string ⟨#[]⟩) (.slice none 0 0) 25
  have B0 := up_1 w (.cells #[.bool false, .string ⟨#[]⟩, .slice none 0 0] 25)
  have hg := hr.lt
  have hr := hr.below B0
  have K := Kp.of_below (g := g) B0
  have hs1 : (w.alloc (.cells #[.bool false, .string ⟨#[]⟩, .slice none 0 0] 25)).heap.size = w.heap.size + 1 := by simp
  have Hd : Hid (isD c = true) := by
    show _ = _
    rw [← begins_digit hc, hb]
  have hcb := neq40 hc
  have hcb' := eq40 hc
  have h12 : ¬ 12 < z := by omega
  cases hx : pT (c :: r) with
  | error x =>
    have hT := Lib.hid (hT0.trans hx)
    have Hx := Lib.hid hx
    clear hx hT0 hc hb hz
    go_enter Tryd.func28, Tryd.ntmps28
    go_wp2_with (first | (go_at_call 34; (with_reducible refine (peek_cons g c r _ hr).mono ?_); rintro e w1 ⟨rfl, rfl⟩) | (go_at_call 35; (with_reducible refine (isDigit_walk c _).mono ?_); rw [Hd.out]; rintro e w2 ⟨rfl, rfl⟩) | (go_at_call 37; (with_reducible refine (text_walk g (c :: r) _ hr (by rw [List.length_cons]; omega)).mono ?_); rw [Hx.out]; rintro e w3 ⟨rfl, bb⟩; have K := K.trans bb; clear bb))
    exact ⟨rfl, NodeEnd.err hT.out K⟩
  | ok q =>
    obtain ⟨n, r'⟩ := q
    have hT := Lib.hid (hT0.trans hx)
    have Hx := Lib.hid hx
    clear hx hT0 hc hb hz
    go_enter Tryd.func28, Tryd.ntmps28
    go_wp2_with (first | (go_at_call 34; (with_reducible refine (peek_cons g c r _ hr).mono ?_); rintro e w1 ⟨rfl, rfl⟩) | (go_at_call 35; (with_reducible refine (isDigit_walk c _).mono ?_); rw [Hd.out]; rintro e w2 ⟨rfl, rfl⟩) | (go_at_call 37; (with_reducible refine (text_walk g (c :: r) _ hr (by rw [List.length_cons]; omega)).mono ?_); rw [Hx.out]; rintro e w3 ⟨t, rfl, rfl, ht, hr, bb⟩; have K := K.trans bb; have kr := kr.kp bb (by omega); clear bb; have k0 := kr.1; have k1 := kr.2.1; have k2 := kr.2.2.1; have k3 := kr.2.2.2.1; have k4 := kr.2.2.2.2.1; have k5 := kr.2.2.2.2.2))
    have kp := kr.put (.bool false) (.string (ofL t)) (.slice none 0 0)
    have p0 := kp.1
    have p1 := kp.2.1
    have p2 := kp.2.2.1
    refine bodyPost_ret (v := .agg #[.bool false, .string (ofL t), .slice none 0 0]) (by simp [results, Tryd.results28, go_sem, p0, p1, p2]) rfl ?_
    exact node_yes (wa := w.alloc (.cells #[.bool false, .string ⟨#[]⟩, .slice none 0 0] 25)) hT.out (RdM.of_parts (RdMS.nil _ _) (by omega)) (by omega) hr hg K

set_option maxRecDepth 20000 in
set_option maxHeartbeats 1000000 in
theorem node_list (b g idx : Nat) (z : Int) (c : UInt8) (r : List UInt8) (w : World) (IH : Hid (NodeC b)) (hr : Rr w g (c :: r)) (hl : r.length ≤ 19999) (hc : c = 40) (hi : ¬ 256 ≤ idx) (hz0 : 1 ≤ z) (hz1 : Hid (z + 1 + (b : Int) = 13)) (hz : z ≤ 12) :
    Calls Tryd.prog 28 #[.pointer (some ⟨g, 0, none⟩), .int .i64 z, .int .i64 (idx : Int)] w (NodeEnd g (nodeR (b + 1) idx (c :: r)) w) := by
  have hT0 := nodeR_list b idx c r hi hc
  have kr := Bn.new w (.bool false) (.string ⟨#[]⟩) (.slice none 0 0) 25
  have B0 := up_1 w (.cells #[.bool false, .string ⟨#[]⟩, .slice none 0 0] 25)
  have hg := hr.lt
  have hr := hr.below B0
  have K := Kp.of_below (g := g) B0
  have hs1 : (w.alloc (.cells #[.bool false, .string ⟨#[]⟩, .slice none 0 0] 25)).heap.size = w.heap.size + 1 := by simp
  have hcb : ((c.toNat : Int) != 40) = false := by rw [hc]; rfl
  have hcb' : ((c.toNat : Int) == 40) = true := by rw [hc]; rfl
  have h12 : ¬ 12 < z := by omega
  cases hx : pK (pN b) 256 r with
  | error x =>
    rw [hx] at hT0
    have hT := Lib.hid hT0
    have Hx := Lib.hid hx
    clear hx hT0 hc
    go_enter Tryd.func28, Tryd.ntmps28
    go_wp2_with (first | (go_at_call 34; (with_reducible refine (peek_cons g c r _ hr).mono ?_); rintro e w1 ⟨rfl, rfl⟩) | (go_at_call 36; (with_reducible refine (list_walk b IH g (z + 1) c r _ hz1 (by omega) (by omega) hl hr).mono ?_); rw [Hx.out]; rintro e w3 ⟨rfl, bb⟩; have K := K.trans bb; clear bb))
    exact ⟨rfl, NodeEnd.err hT.out K⟩
  | ok q =>
    obtain ⟨k, r'⟩ := q
    rw [hx] at hT0
    have hT := Lib.hid hT0
    have Hx := Lib.hid hx
    clear hx hT0 hc
    go_enter Tryd.func28, Tryd.ntmps28
    go_wp2_with (first | (go_at_call 34; (with_reducible refine (peek_cons g c r _ hr).mono ?_); rintro e w1 ⟨rfl, rfl⟩) | (go_at_call 36; (with_reducible refine (list_walk b IH g (z + 1) c r _ hz1 (by omega) (by omega) hl hr).mono ?_); rw [Hx.out]; rintro e w3 ⟨A, m, c', rfl, hM, hr, bb⟩; have K := K.trans bb; have kr := kr.kp bb (by omega); clear bb; have k0 := kr.1; have k1 := kr.2.1; have k2 := kr.2.2.1; have k3 := kr.2.2.2.1; have k4 := kr.2.2.2.2.1; have k5 := kr.2.2.2.2.2))
    have kp := kr.put (.bool true) (.string ⟨#[]⟩) (.slice A m c')
    have p0 := kp.1
    have p1 := kp.2.1
    have p2 := kp.2.2.1
    refine bodyPost_ret (v := .agg #[.bool true, .string ⟨#[]⟩, .slice A m c']) (by simp [results, Tryd.results28, go_sem, p0, p1, p2]) rfl ?_
    exact node_yes (wa := w.alloc (.cells #[.bool false, .string ⟨#[]⟩, .slice none 0 0] 25)) hT.out (RdM.of_parts (t := []) hM (by simp)) (by omega) hr hg K

theorem node_c : ∀ b : Nat, NodeC b := by
  intro b
  induction b with
  | zero =>
    intro g idx z L W hz hz1 hi hl hr
    cases L with
    | nil => exact node_four 0 g idx z W hr
    | cons c r =>
      cases hb : begins c with
      | false => exact node_two 0 g idx z c r W hr hb
      | true => exact node_five 0 g idx z c r W hr hb (.inl rfl) hz
  | succ b ih =>
    intro g idx z L W hz hz1 hi hl hr
    cases L with
    | nil => exact node_four (b + 1) g idx z W hr
    | cons c r =>
      rw [List.length_cons] at hl
      cases hb : begins c with
      | false => exact node_two (b + 1) g idx z c r W hr hb
      | true =>
        by_cases h6 : 256 ≤ idx
        · exact node_five (b + 1) g idx z c r W hr hb (.inr h6) hz
        · by_cases hc : c = 40
          · exact node_list b g idx z c r W ih hr (by omega) hc h6 hz1 (by show _ = _; omega) (by omega)
          · exact node_text b g idx z c r W hr (by omega) hb hc h6 (by omega)
end Go.Proofs.YtmklladpalcjpaaDoor
