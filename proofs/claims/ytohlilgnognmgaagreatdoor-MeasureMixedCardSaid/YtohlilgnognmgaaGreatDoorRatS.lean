/-
  The walks of garmentref03's limbs, SameInt, Same and Light.
-/
import Derived.Test.YtohlilgnognmgaaGreatDoorRatK
namespace Go.Proofs.YtohlilgnognmgaaGreatDoor
open Go.RowKit
attribute [local go_sem ↓] Go.wp_at_zero Go.wp_at_succ
set_option linter.unusedVariables false

set_option maxRecDepth 20000 in
set_option maxHeartbeats 2000000 in
theorem limbs_walk (A B : Option Addr) (n c m d : Nat) (l : List Nat) (w : World) (ha : Rd w (fun _ => True) (.slice A n c) l) (hb : Rd w (fun _ => True) (.slice B m d) l) :
    Calls Tryz.prog 53 #[.slice A n c, .slice B m d] w (BoolEnd true w) := by
  have B0 := Below.refl w.heap.size w
  obtain ⟨A', n', c', e1, Hn, hnc, hc, HLa, hA⟩ := ha.open_
  obtain ⟨B', m', d', e2, Hm, hmd, hd, HLb, hB⟩ := hb.open_
  simp only [Value.slice.injEq] at e1 e2
  obtain ⟨rfl, rfl, rfl⟩ := e1
  obtain ⟨rfl, rfl, rfl⟩ := e2
  obtain rfl : m = n := by have := Hn.out; have := Hm.out; omega
  have t0 : ((m : Int) != m) = false := by simp
  clear ha hb
  have HB0 := Lib.hid B0
  clear B0
  go_enter Tryz.func53, Tryz.ntmps53
  go_wp2
  go_loopw [5] (fun i wr => ∃ k : Nat, k ≤ m ∧ i = .int .i64 k ∧ ∃ q, wr = w.drewN q) (fun i _ => m - (intOf i).toNat)
  case atStart => exact ⟨0, Nat.zero_le _, rfl, 0, rfl⟩
  case round =>
    obtain ⟨k, hk, rfl, q, rfl⟩ := hrel
    by_cases hlt : k < m
    · obtain ⟨x, hx⟩ : ∃ x, l[k]? = some x := ⟨_, List.getElem?_eq_getElem (by have := Hn.out; omega)⟩
      obtain ⟨g, off, rfl, _, hc1⟩ := hA (by have := Hn.out; omega)
      obtain ⟨g', off', rfl, _, hc2⟩ := hB (by have := Hn.out; omega)
      have h1 := hc1 _ _ hx
      have h2 := hc2 _ _ hx
      have hkz : (k : Int) < (m : Int) := by omega
      have hk0 : (0 : Int) ≤ (k : Int) := by omega
      have hbn : ((x : Int) != x) = false := by simp
      clear hc1 hc2 hx
      go_wp2_with fail
      go_quiet (fail)
      go_wp2
      go_roundw
      case rel => exact ⟨k + 1, by omega, by go_num, _, rfl⟩
      case measure => simp [intOf] <;> omega
    · go_wp2
      go_ret
      exact ⟨rfl, below_drewN HB0.out q⟩
theorem Nz.eq {w : World} {v u : Value} {a b k j : Nat} (h : Nz w v a k) (hu : Nz w u b j) (e : a = b) : ∃ l, Rd w (fun _ => True) v l ∧ Rd w (fun _ => True) u l := by
  obtain ⟨l, h1, h2, h3, _⟩ := h
  obtain ⟨l', h1', h2', h3', _⟩ := hu
  have e := Num.Nrm.inj h1.lim h1'.lim h2 h2' (by rw [h3, h3', e])
  subst e
  exact ⟨l, h1, h1'⟩
set_option maxRecDepth 20000 in
theorem sameint_walk (b : Bool) (A B : Option Addr) (n c m d : Nat) (l : List Nat) (w : World) (ha : Rd w (fun _ => True) (.slice A n c) l) (hb : Rd w (fun _ => True) (.slice B m d) l) :
    Calls Tryz.prog 52 #[.agg #[.bool b, .slice A n c], .agg #[.bool b, .slice B m d]] w (BoolEnd true w) := by
  have B0 := below_a2 w (.cells #[.bool b, .slice A n c] 25) (.cells #[.bool b, .slice B m d] 25)
  have ha := ha.below B0
  have hb := hb.below B0
  have t1 : (b == b) = true := by simp
  go_enter Tryz.func52, Tryz.ntmps52
  go_wp2_with fail
  refine (limbs_walk A B n c m d l _ ha hb).mono ?_
  rintro e w1 ⟨rfl, bb⟩
  go_wp2
  go_ret
  exact ⟨rfl, B0.trans (bb.mono B0.size)⟩
theorem rsameint_i {w : World} {v u : Value} {z y : Int} {k j : Nat} (h : Iz w v z k) (hu : Iz w u y j) (e : z = y) : Calls Tryz.prog 52 #[v, u] w (BoolEnd true w) := by
  obtain ⟨b, A, n, c, B, m, d, l, rfl, rfl, h1, h2⟩ := h.eq hu e
  exact sameint_walk b A B n c m d l w h1 h2
set_option maxRecDepth 20000 in
theorem same_walk (b : Bool) (A A' : Option Addr) (n c n' c' : Nat) (l : List Nat) (B B' : Option Addr) (m d m' d' : Nat) (l' : List Nat) (w : World) (ha : Rd w (fun _ => True) (.slice A n c) l) (hb : Rd w (fun _ => True) (.slice A' n' c') l) (ha' : Rd w (fun _ => True) (.slice B m d) l') (hb' : Rd w (fun _ => True) (.slice B' m' d') l') :
    Calls Tryz.prog 24 #[.agg #[.bool b, .slice A n c, .slice B m d], .agg #[.bool b, .slice A' n' c', .slice B' m' d']] w (BoolEnd true w) := by
  have B0 := below_a2 w (.cells #[.bool b, .slice A n c, .slice B m d] 27) (.cells #[.bool b, .slice A' n' c', .slice B' m' d'] 27)
  have ha := ha.below B0
  have hb := hb.below B0
  have ha' := ha'.below B0
  have hb' := hb'.below B0
  have ka := ((Bq.new w (w.heap.size) (by simp) (.bool b) (.slice A n c) (.slice B m d)).below (below_alloc (w.alloc (.cells #[.bool b, .slice A n c, .slice B m d] 27)) (.cells #[.bool b, .slice A' n' c', .slice B' m' d'] 27)))
  have kb := (Bq.new (w.alloc (.cells #[.bool b, .slice A n c, .slice B m d] 27)) (w.heap.size + 1) (by simp) (.bool b) (.slice A' n' c') (.slice B' m' d'))
  go_enter Tryz.func24, Tryz.ntmps24
  go_wp2_with fail
  refine (sameint_walk b A A' n c n' c' l _ ha hb).mono ?_
  rintro e w1 ⟨rfl, bb⟩
  have ha' := ha'.below bb
  have hb' := hb'.below bb
  have ka := ka.below bb
  have kb := kb.below bb
  have B0 := B0.trans (bb.mono B0.size)
  have k0 := ka.c0
  have k1 := ka.c1
  have k2 := ka.c2
  have j0 := kb.c0
  have j1 := kb.c1
  have j2 := kb.c2
  clear bb
  go_wp2_with fail
  refine (limbs_walk B B' m d m' d' l' _ ha' hb').mono ?_
  rintro e w2 ⟨rfl, bb⟩
  go_wp2
  go_ret
  exact ⟨rfl, B0.trans (bb.mono B0.size)⟩
theorem rsame_q {w : World} {v u : Value} {x y : Rat} {k j k' j' : Nat} (h : Qz w v x k j) (hu : Qz w u y k' j') (e : x = y) : Calls Tryz.prog 24 #[v, u] w (BoolEnd true w) := by
  subst e
  obtain ⟨b, A, n, c, B, m, d, rfl, h1, h2⟩ := h
  obtain ⟨b', A', n', c', B', m', d', rfl, h1', h2'⟩ := hu
  obtain ⟨b0, A0, n0, c0, B0, m0, d0, l, e, e', r, r'⟩ := h1.eq h1' rfl
  obtain ⟨l', s, s'⟩ := h2.eq h2' rfl
  simp only [Value.agg.injEq, Array.mk.injEq, List.cons.injEq, Value.bool.injEq, Value.slice.injEq, and_true] at e e'
  obtain ⟨rfl, rfl, rfl, rfl⟩ := e
  obtain ⟨rfl, rfl, rfl, rfl⟩ := e'
  exact same_walk _ _ _ _ _ _ _ _ _ _ _ _ _ _ _ w r r' s s'
theorem rsame_0 (w : World) : Calls Tryz.prog 24 #[.agg #[.bool false, .slice none 0 0, .slice none 0 0], .agg #[.bool false, .slice none 0 0, .slice none 0 0]] w (BoolEnd true w) :=
  same_walk false none none 0 0 0 0 [] none none 0 0 0 0 [] w (Rd.nil _ _) (Rd.nil _ _) (Rd.nil _ _) (Rd.nil _ _)
theorem light_yes (b : Bool) (A : Option Addr) (n c : Nat) (B : Option Addr) (m d : Nat) (i : Int) (w : World) (h : (n : Int) ≤ i) (h' : (m : Int) ≤ i) : Calls Tryz.prog 9 #[.agg #[.bool b, .slice A n c, .slice B m d], .int .i64 i] w (BoolEnd true w) := by
  have hd : decide ((n : Int) ≤ i) = true := decide_eq_true h
  have hd' : decide ((m : Int) ≤ i) = true := decide_eq_true h'
  go_enter Tryz.func9, Tryz.ntmps9
  go_wp2
  go_ret
  exact ⟨rfl, below_alloc _ _⟩
theorem light_no (b : Bool) (A : Option Addr) (n c : Nat) (B : Option Addr) (m d : Nat) (i : Int) (w : World) (h : i < (n : Int)) : Calls Tryz.prog 9 #[.agg #[.bool b, .slice A n c, .slice B m d], .int .i64 i] w (BoolEnd false w) := by
  have hd : decide ((n : Int) ≤ i) = false := decide_eq_false (by omega)
  go_enter Tryz.func9, Tryz.ntmps9
  go_wp2
  go_ret
  exact ⟨rfl, below_alloc _ _⟩
theorem light_no' (b : Bool) (A : Option Addr) (n c : Nat) (B : Option Addr) (m d : Nat) (i : Int) (w : World) (h : (n : Int) ≤ i) (h' : i < (m : Int)) : Calls Tryz.prog 9 #[.agg #[.bool b, .slice A n c, .slice B m d], .int .i64 i] w (BoolEnd false w) := by
  have hd : decide ((n : Int) ≤ i) = true := decide_eq_true h
  have hd' : decide ((m : Int) ≤ i) = false := decide_eq_false (by omega)
  go_enter Tryz.func9, Tryz.ntmps9
  go_wp2
  go_ret
  exact ⟨rfl, below_alloc _ _⟩
theorem light_not (b : Bool) (A : Option Addr) (n c : Nat) (B : Option Addr) (m d : Nat) (i : Int) (w : World) (h : i < (n : Int) ∨ i < (m : Int)) : Calls Tryz.prog 9 #[.agg #[.bool b, .slice A n c, .slice B m d], .int .i64 i] w (BoolEnd false w) := by
  by_cases h0 : i < (n : Int)
  · exact light_no b A n c B m d i w h0
  · exact light_no' b A n c B m d i w (by omega) (by omega)
end Go.Proofs.YtohlilgnognmgaaGreatDoor
