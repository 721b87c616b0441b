/-
  The walks of garmentref02.Same and of garmentlaw02's short and normal.
-/
import Derived.Test.YthcoemkbdllcfaaDoorRIntT
namespace Go.Proofs.YthcoemkbdllcfaaDoor
open Go.RowKit
attribute [local go_sem ↓] Go.wp_at_zero Go.wp_at_succ
set_option linter.unusedVariables false

set_option maxRecDepth 20000 in
set_option maxHeartbeats 2000000 in
theorem isame_walk (b : Bool) (A B : Option Addr) (n c m d : Nat) (l : List Nat) (w : World) (ha : Rd w (fun _ => True) (.slice A n c) l) (hb : Rd w (fun _ => True) (.slice B m d) l) :
    Calls Tryd.prog 14 #[.agg #[.bool b, .slice A n c], .agg #[.bool b, .slice B m d]] w (BoolEnd true w) := by
  have B0 := below_a2 w (.cells #[.bool b, .slice A n c] 25) (.cells #[.bool b, .slice B m d] 25)
  have ha := ha.below B0
  have hb := hb.below B0
  obtain ⟨A', n', c', e1, Hn, hnc, hc, HLa, hA⟩ := ha.open_
  obtain ⟨B', m', d', e2, Hm, hmd, hd, HLb, hB⟩ := hb.open_
  simp only [Value.slice.injEq] at e1 e2
  obtain ⟨rfl, rfl, rfl⟩ := e1
  obtain ⟨rfl, rfl, rfl⟩ := e2
  obtain rfl : m = n := by have := Hn.out; have := Hm.out; omega
  have t0 : ((m : Int) != m) = false := by simp
  have t1 : (b != b) = false := by simp
  have t2 : (!(b == b)) = false := by simp
  clear ha hb
  have HB0 := Lib.hid B0
  clear B0
  go_enter Tryd.func14, Tryd.ntmps14
  go_wp2
  go_loopw [5] (fun i wr => ∃ k : Nat, k ≤ m ∧ i = .int .i64 k ∧ ∃ q, wr = ((w.alloc (.cells #[.bool b, .slice A m c] 25)).alloc (.cells #[.bool b, .slice B m d] 25)).drewN q) (fun i _ => m - (intOf i).toNat)
  case atStart => exact ⟨0, Nat.zero_le _, rfl, 0, rfl⟩
  case round =>
    obtain ⟨k, hk, rfl, q, rfl⟩ := hrel
    by_cases hlt : k < m
    · obtain ⟨x, hx⟩ : ∃ x, l[k]? = some x := ⟨_, List.getElem?_eq_getElem (by have := Hn.out; omega)⟩
      obtain ⟨g, off, rfl, _, hc1⟩ := hA (by have := Hn.out; omega)
      obtain ⟨g', off', rfl, _, hc2⟩ := hB (by have := Hn.out; omega)
      have h1 := hc1 _ _ hx
      have h2 := hc2 _ _ hx
      have hkz : (k : Int) < (m : Int) := by omega
      have hk0 : (0 : Int) ≤ (k : Int) := by omega
      have hbn : ((x : Int) != x) = false := by simp
      clear hc1 hc2 hx
      go_wp2_with fail
      go_quiet (fail)
      go_wp2
      go_roundw
      case rel => exact ⟨k + 1, by omega, by go_num, _, rfl⟩
      case measure => simp [intOf] <;> omega
    · go_wp2
      go_ret
      exact ⟨rfl, below_drewN HB0.out q⟩
theorem isame_i {w : World} {v u : Value} {z y : Int} {k j : Nat} (h : Iz w v z k) (hu : Iz w u y j) (e : z = y) : Calls Tryd.prog 14 #[v, u] w (BoolEnd true w) := by
  obtain ⟨b, A, n, c, B, m, d, l, rfl, rfl, h1, h2⟩ := h.eq hu e
  exact isame_walk b A B n c m d l w h1 h2
theorem zero_iz (w : World) : Iz w (.agg #[.bool false, .slice none 0 0]) 0 0 := ⟨false, none, 0, 0, 0, rfl, ⟨[], Rd.nil _ _, Num.Nrm.nil, rfl, Nat.le_refl _⟩, rfl, fun _ => rfl⟩
/-- An argument that came in. -/
theorem Iv.named {w : World} {v : Value} {z : Int} {k : Nat} (h : Iv w v z k) : ∃ b A n c, v = .agg #[.bool b, .slice A n c] ∧ n ≤ 9223372036854775807 ∧ Iv w (.agg #[.bool b, .slice A n c]) z n := by
  obtain ⟨b, A, n, c, m, rfl, ⟨l, h1, h2, h3⟩, hz⟩ := h
  have e := h1.addr
  obtain ⟨A', c', e', h4, h5, _⟩ := h1
  have h1' : Rd w (fun _ => True) (.slice A n c) l := by rw [e']; exact ⟨A', c', rfl, h4, h5, by assumption⟩
  exact ⟨b, A, n, c, rfl, by omega, b, A, n, c, m, rfl, ⟨l, h1', h2, by omega⟩, hz⟩
theorem rshort_yes (b : Bool) (A : Option Addr) (n c : Nat) (i : Int) (w : World) (h : (n : Int) ≤ i) : Calls Tryd.prog 29 #[.agg #[.bool b, .slice A n c], .int .i64 i] w (BoolEnd true w) := by
  have hd : decide ((n : Int) ≤ i) = true := decide_eq_true h
  go_enter Tryd.func29, Tryd.ntmps29
  go_wp2
  go_ret
  exact ⟨rfl, below_alloc _ _⟩
theorem rshort_no (b : Bool) (A : Option Addr) (n c : Nat) (i : Int) (w : World) (h : i < (n : Int)) : Calls Tryd.prog 29 #[.agg #[.bool b, .slice A n c], .int .i64 i] w (BoolEnd false w) := by
  have hd : decide ((n : Int) ≤ i) = false := decide_eq_false (by omega)
  go_enter Tryd.func29, Tryd.ntmps29
  go_wp2
  go_ret
  exact ⟨rfl, below_alloc _ _⟩
theorem short_yes (b b' : Bool) (A A' : Option Addr) (n c n' c' : Nat) (w : World) (h1 : n ≤ 40) (h2 : n' ≤ 40) : Calls Tryd.prog 12 #[.agg #[.bool b, .slice A n c], .agg #[.bool b', .slice A' n' c']] w (BoolEnd true w) := by
  have B0 := below_a2 w (.cells #[.bool b, .slice A n c] 25) (.cells #[.bool b', .slice A' n' c'] 25)
  have ka := ((Bx.new w (w.heap.size) (by simp) (.bool b) (.slice A n c)).below (below_alloc (w.alloc (.cells #[.bool b, .slice A n c] 25)) (.cells #[.bool b', .slice A' n' c'] 25)))
  have kb := (Bx.new (w.alloc (.cells #[.bool b, .slice A n c] 25)) (w.heap.size + 1) (by simp) (.bool b') (.slice A' n' c'))
  go_enter Tryd.func12, Tryd.ntmps12
  have ka0 := ka.1
  have ka1 := ka.2
  have kb0 := kb.1
  have kb1 := kb.2
  go_wp2_with fail
  refine (rshort_yes b A n c _ _ (by omega)).mono ?_
  clear ka0 ka1 kb0 kb1
  rintro e w1 ⟨rfl, bb⟩
  have ka := ka.below bb
  have kb := kb.below bb
  have B0 := B0.trans (bb.mono B0.size)
  clear bb
  have ka0 := ka.1
  have ka1 := ka.2
  have kb0 := kb.1
  have kb1 := kb.2
  go_wp2_with fail
  refine (rshort_yes b' A' n' c' _ _ (by omega)).mono ?_
  clear ka0 ka1 kb0 kb1
  rintro e w2 ⟨rfl, bb⟩
  have ka := ka.below bb
  have kb := kb.below bb
  have B0 := B0.trans (bb.mono B0.size)
  clear bb
  go_wp2
  go_ret
  exact ⟨rfl, B0⟩
theorem short_no1 (b b' : Bool) (A A' : Option Addr) (n c n' c' : Nat) (w : World) (h1 : 40 < n) : Calls Tryd.prog 12 #[.agg #[.bool b, .slice A n c], .agg #[.bool b', .slice A' n' c']] w (BoolEnd false w) := by
  have B0 := below_a2 w (.cells #[.bool b, .slice A n c] 25) (.cells #[.bool b', .slice A' n' c'] 25)
  have ka := ((Bx.new w (w.heap.size) (by simp) (.bool b) (.slice A n c)).below (below_alloc (w.alloc (.cells #[.bool b, .slice A n c] 25)) (.cells #[.bool b', .slice A' n' c'] 25)))
  have kb := (Bx.new (w.alloc (.cells #[.bool b, .slice A n c] 25)) (w.heap.size + 1) (by simp) (.bool b') (.slice A' n' c'))
  go_enter Tryd.func12, Tryd.ntmps12
  have ka0 := ka.1
  have ka1 := ka.2
  have kb0 := kb.1
  have kb1 := kb.2
  go_wp2_with fail
  refine (rshort_no b A n c _ _ (by omega)).mono ?_
  clear ka0 ka1 kb0 kb1
  rintro e w1 ⟨rfl, bb⟩
  have ka := ka.below bb
  have kb := kb.below bb
  have B0 := B0.trans (bb.mono B0.size)
  clear bb
  go_wp2
  go_ret
  exact ⟨rfl, B0⟩
theorem short_no2 (b b' : Bool) (A A' : Option Addr) (n c n' c' : Nat) (w : World) (h1 : n ≤ 40) (h2 : 40 < n') : Calls Tryd.prog 12 #[.agg #[.bool b, .slice A n c], .agg #[.bool b', .slice A' n' c']] w (BoolEnd false w) := by
  have B0 := below_a2 w (.cells #[.bool b, .slice A n c] 25) (.cells #[.bool b', .slice A' n' c'] 25)
  have ka := ((Bx.new w (w.heap.size) (by simp) (.bool b) (.slice A n c)).below (below_alloc (w.alloc (.cells #[.bool b, .slice A n c] 25)) (.cells #[.bool b', .slice A' n' c'] 25)))
  have kb := (Bx.new (w.alloc (.cells #[.bool b, .slice A n c] 25)) (w.heap.size + 1) (by simp) (.bool b') (.slice A' n' c'))
  go_enter Tryd.func12, Tryd.ntmps12
  have ka0 := ka.1
  have ka1 := ka.2
  have kb0 := kb.1
  have kb1 := kb.2
  go_wp2_with fail
  refine (rshort_yes b A n c _ _ (by omega)).mono ?_
  clear ka0 ka1 kb0 kb1
  rintro e w1 ⟨rfl, bb⟩
  have ka := ka.below bb
  have kb := kb.below bb
  have B0 := B0.trans (bb.mono B0.size)
  clear bb
  have ka0 := ka.1
  have ka1 := ka.2
  have kb0 := kb.1
  have kb1 := kb.2
  go_wp2_with fail
  refine (rshort_no b' A' n' c' _ _ (by omega)).mono ?_
  clear ka0 ka1 kb0 kb1
  rintro e w2 ⟨rfl, bb⟩
  have ka := ka.below bb
  have kb := kb.below bb
  have B0 := B0.trans (bb.mono B0.size)
  clear bb
  go_wp2
  go_ret
  exact ⟨rfl, B0⟩
theorem short_no (b b' : Bool) (A A' : Option Addr) (n c n' c' : Nat) (w : World) (h : 40 < n ∨ 40 < n') : Calls Tryd.prog 12 #[.agg #[.bool b, .slice A n c], .agg #[.bool b', .slice A' n' c']] w (BoolEnd false w) := by
  by_cases h1 : 40 < n
  · exact short_no1 b b' A A' n c n' c' w h1
  · exact short_no2 b b' A A' n c n' c' w (by omega) (by omega)
theorem Iv.lit (W : World) (b : Bool) (l : List Nat) (cs : Array Value) (g n : Nat) (hcs : cs = (l.map Lv).toArray) (hn : n = l.length) (hg : g = W.heap.size) (hL : Num.Lim l) (hb : n ≤ 1000) (z : Int) (hz : z = sgn b (Num.val l)) : Iv (W.alloc (.cells cs 46)) (.agg #[.bool b, .slice (some ⟨g, 0, none⟩) n n]) z n :=
  ⟨b, _, n, n, Num.val l, rfl, ⟨l, Rd.lit W l cs g n hcs hn hg hL hb, rfl, by omega⟩, hz⟩
theorem lim3 (a b c : Nat) (ha : a < 4294967296) (hb : b < 4294967296) (hc : c < 4294967296) : Num.Lim [a, b, c] := Num.Lim.cons ha (lim2 b c hb hc)
theorem zdec1 (z : Int) (d : Nat) (h : z.natAbs = d) (hd : d < 10) : zdec z = (if z < 0 then [45] else []) ++ [UInt8.ofNat (48 + d)] := by
  unfold zdec
  rw [h, Lib.decDigits_one hd]
  split <;> rfl
theorem zdec2 (z : Int) (d e : Nat) (h : z.natAbs = d * 10 + e) (hd : d < 10) (h0 : 0 < d) (he : e < 10) : zdec z = (if z < 0 then [45] else []) ++ [UInt8.ofNat (48 + d), UInt8.ofNat (48 + e)] := by
  unfold zdec
  rw [h, Txt.dec_big _ (by omega), show (d * 10 + e) / 10 = d by omega, show (d * 10 + e) % 10 = e by omega, Lib.decDigits_one hd]
  split <;> rfl
end Go.Proofs.YthcoemkbdllcfaaDoor
