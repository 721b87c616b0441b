/-
  The walks of garmentref02.Text and Small.
-/
import Derived.Test.YthcoemkbdllcfaaDoorRIntA
import Derived.Test.YthcoemkbdllcfaaDoorRefI
import Derived.Test.YthcoemkbdllcfaaDoorIntS
namespace Go.Proofs.YthcoemkbdllcfaaDoor
open Go.RowKit
attribute [local go_sem ↓] Go.wp_at_zero Go.wp_at_succ
set_option linter.unusedVariables false

theorem neg_of {z : Int} {b : Bool} {m : Nat} (hz : z = sgn b m) (e : b = true) (h0 : m = 0 → b = false) : z < 0 := by
  subst e
  have : m ≠ 0 := fun e => absurd (h0 e) (by simp)
  rw [hz, sgn_true]
  omega
set_option maxRecDepth 20000 in
set_option maxHeartbeats 1000000 in
theorem ritext_x {w : World} {b : Bool} {A : Option Addr} {n c k : Nat} {z : Int} (h : Iv w (.agg #[.bool b, .slice A n c]) z k) (hk : k ≤ 900) (t u : ByteArray) (hu : u.data.toList = Lib.decDigits z.natAbs) (ht : t.data.toList = zdec z) : Calls Tryd.prog 33 #[.agg #[.bool b, .slice A n c]] w (StrEnd t w) := by
  have HU := Lib.hid hu
  have HT := Lib.hid ht
  clear hu ht
  have B0 := below_a1 w (.cells #[.bool b, .slice A n c] 25)
  have h := h.below B0
  have ka := (Bx.new w (w.heap.size) (by simp) (.bool b) (.slice A n c))
  go_enter Tryd.func33, Tryd.ntmps33
  have ka0 := ka.1
  have ka1 := ka.2
  go_wp2_with fail
  refine (rnorm_i h (by omega)).mono ?_
  clear ka0 ka1
  rintro e w1 ⟨v1, rfl, z1, bb⟩
  have h := h.below bb
  have ka := ka.below bb
  have B0 := B0.trans (bb.mono B0.size)
  clear bb
  obtain ⟨b1, A1, n1, c1, rfl, z1⟩ := z1.cells
  obtain ⟨m, zp, hz, h0⟩ := z1.parts
  clear z1
  have hm : z.natAbs = m := by rw [hz]; exact sgn_abs b1 m
  have HU' : Hid (u.data.toList = Lib.decDigits m) := by show _ = _; rw [HU.out, hm]
  have hus := text_size zp.nm.lt HU'.out
  have hneg : b1 = true → (⟨#[45]⟩ : ByteArray) ++ u = t := fun e => bytes_ext (by rw [HT.out, zdec, if_pos (neg_of hz e h0), ← HU.out]; simp)
  have hpos : b1 = false → u = t := fun e => bytes_ext (by rw [HT.out, zdec, if_neg (by rw [hz, e, sgn_false]; omega), ← HU.out])
  have HN := Lib.hid hneg
  have HP := Lib.hid hpos
  clear hneg hpos hm hz h0
  have zp := zp.below (below_alloc w1 (.cells #[.bool b1, .slice A1 n1 c1] 25))
  have kx := Bx.new w1 w1.heap.size rfl (.bool b1) (.slice A1 n1 c1)
  have B0 := B0.trans ((below_alloc w1 (.cells #[.bool b1, .slice A1 n1 c1] 25)).mono B0.size)
  cases b1
  · have kx0 := kx.1
    have kx1 := kx.2
    go_wp2_with fail
    refine (rtext_n zp.nm (by omega) u HU'.out).mono ?_
    rintro e w2 ⟨rfl, bb⟩
    go_wp2
    go_ret
    rw [← HP.out (by first | rfl | trivial)]
    exact ⟨rfl, B0.trans (bb.mono B0.size)⟩
  · have kx0 := kx.1
    have kx1 := kx.2
    go_wp2_with fail
    refine (rtext_n zp.nm (by omega) u HU'.out).mono ?_
    rintro e w2 ⟨rfl, bb⟩
    go_wp2
    go_ret
    rw [← HN.out (by first | rfl | trivial)]
    exact ⟨rfl, B0.trans (bb.mono B0.size)⟩
theorem ritext_i {w : World} {v : Value} {z : Int} {k : Nat} (h : Iv w v z k) (hk : k ≤ 900) (t : ByteArray) (ht : t.data.toList = zdec z) : Calls Tryd.prog 33 #[v] w (StrEnd t w) := by
  have h' := h
  obtain ⟨b, A, n, d, m, rfl, _⟩ := h'
  exact ritext_x h hk t ⟨(Lib.decDigits z.natAbs).toArray⟩ rfl ht
set_option maxRecDepth 20000 in
set_option maxHeartbeats 1000000 in
theorem rismall_big {w : World} {b : Bool} {A : Option Addr} {n c k : Nat} {z : Int} (h : Iv w (.agg #[.bool b, .slice A n c]) z k) (hk : k ≤ 900) (hz : 18446744073709551616 ≤ z.natAbs) : Calls Tryd.prog 35 #[.agg #[.bool b, .slice A n c]] w (SmallEnd 0 false w) := by
  have B0 := below_a1 w (.cells #[.bool b, .slice A n c] 25)
  have h := h.below B0
  have ka := (Bx.new w (w.heap.size) (by simp) (.bool b) (.slice A n c))
  go_enter Tryd.func35, Tryd.ntmps35
  have ka0 := ka.1
  have ka1 := ka.2
  go_wp2_with fail
  refine (rnorm_i h (by omega)).mono ?_
  clear ka0 ka1
  rintro e w1 ⟨v1, rfl, z1, bb⟩
  have h := h.below bb
  have ka := ka.below bb
  have B0 := B0.trans (bb.mono B0.size)
  clear bb
  obtain ⟨b1, A1, n1, c1, rfl, z1⟩ := z1.cells
  obtain ⟨m, zp, hz', h0⟩ := z1.parts
  clear z1
  have hm : z.natAbs = m := by rw [hz']; exact sgn_abs b1 m
  have hn3 : 2 < n1 := by
    obtain ⟨l, hr, hn, hv, hl⟩ := zp
    have h1 := hr.addr
    rcases Nat.lt_or_ge 2 l.length with h | h
    · omega
    · have h2 := Num.val_lt l hr.lim
      have h3 : Num.K ^ l.length ≤ Num.K ^ 2 := Nat.pow_le_pow_right Num.K_pos h
      have h4 : Num.K ^ 2 = 18446744073709551616 := by decide
      omega
  have hnb := zp.len0.2.2
  clear hm h0 hz'
  have zp := zp.below (below_alloc w1 (.cells #[.bool b1, .slice A1 n1 c1] 25))
  have kx := Bx.new w1 w1.heap.size rfl (.bool b1) (.slice A1 n1 c1)
  have B0 := B0.trans ((below_alloc w1 (.cells #[.bool b1, .slice A1 n1 c1] 25)).mono B0.size)
  have kx0 := kx.1
  have kx1 := kx.2
  go_wp2
  go_ret2
  exact ⟨rfl, B0⟩
set_option maxRecDepth 20000 in
set_option maxHeartbeats 1000000 in
theorem rismall_x {w : World} {b : Bool} {A : Option Addr} {n c k : Nat} {z : Int} (h : Iv w (.agg #[.bool b, .slice A n c]) z k) (hk : k ≤ 900) (hz : z.natAbs < 18446744073709551616) (r : Int) (q : Bool) (hr0 : (-9223372036854775808 ≤ z ∧ z ≤ 9223372036854775807 ∧ r = z ∧ q = true) ∨ (¬ (-9223372036854775808 ≤ z ∧ z ≤ 9223372036854775807) ∧ r = 0 ∧ q = false)) : Calls Tryd.prog 35 #[.agg #[.bool b, .slice A n c]] w (SmallEnd r q w) := by
  have HR := Lib.hid hr0
  clear hr0
  have B0 := below_a1 w (.cells #[.bool b, .slice A n c] 25)
  have h := h.below B0
  have ka := (Bx.new w (w.heap.size) (by simp) (.bool b) (.slice A n c))
  go_enter Tryd.func35, Tryd.ntmps35
  have ka0 := ka.1
  have ka1 := ka.2
  go_wp2_with fail
  refine (rnorm_i h (by omega)).mono ?_
  clear ka0 ka1
  rintro e w1 ⟨v1, rfl, z1, bb⟩
  have h := h.below bb
  have ka := ka.below bb
  have B0 := B0.trans (bb.mono B0.size)
  clear bb
  obtain ⟨b1, A1, n1, c1, rfl, z1⟩ := z1.cells
  obtain ⟨m, zp, hz', h0⟩ := z1.parts
  clear z1
  have hm : z.natAbs = m := by rw [hz']; exact sgn_abs b1 m
  obtain ⟨l, hr, hn, hv, hl⟩ := zp
  have hl2 : l.length ≤ 2 := hn.len_le (by rw [hv, ← hm]; exact Nat.lt_of_lt_of_le hz (by decide))
  have hr := hr.below (below_alloc w1 (.cells #[.bool b1, .slice A1 n1 c1] 25))
  have hln := hr.addr
  obtain ⟨A9, n9, c9, e9, Hn, hlc, hcc, HL, hA⟩ := hr.open_
  simp only [Value.slice.injEq] at e9
  obtain ⟨rfl, rfl, rfl⟩ := e9
  have hn2 : n1 ≤ 2 := by omega
  have hmb : m < 18446744073709551616 := by omega
  have HV := Lib.hid hv
  have HZ := Lib.hid hz'
  have H0 := Lib.hid h0
  clear hv hn hl hl2 hln hm hz hz' h0 hr
  have kx := Bx.new w1 w1.heap.size rfl (.bool b1) (.slice A1 n1 c1)
  have B0 := B0.trans ((below_alloc w1 (.cells #[.bool b1, .slice A1 n1 c1] 25)).mono B0.size)
  have kx0 := kx.1
  have kx1 := kx.2
  go_wp2
  go_loop [5, 6] (fun x i => ∃ k : Nat, k ≤ n1 ∧ i = .int .i64 ((k : Int) - 1) ∧ ∃ s : Nat, x = .int .u64 s ∧ Hid (s = Num.val (l.drop k))) (fun _ i => (intOf i + 1).toNat)
  case atStart => exact ⟨n1, Nat.le_refl _, rfl, 0, rfl, by show 0 = _; rw [List.drop_of_length_le (by have := Hn.out; omega)]; rfl⟩
  case round =>
    obtain ⟨k, hk, rfl, s, rfl, Hs⟩ := hrel
    by_cases h0 : k = 0
    · have hk0 : ¬ 0 ≤ (k : Int) - 1 := by omega
      have hs : s = m := by rw [Hs.out, h0, List.drop_zero, HV.out]
      subst hs
      clear h0
      have BE := Lib.hid B0
      clear B0
      have hz0 := HZ.out
      rcases HR.out with ⟨h1, h2, rfl, rfl⟩ | ⟨h1, rfl, rfl⟩
      · cases b1
        · have hm : s ≤ 9223372036854775807 := by rw [sgn_false] at hz0; omega
          have Hr : Hid (r = (s : Int)) := hz0
          clear HR HZ H0 hz0 h1 h2
          go_wp2
          go_ret2
          rw [Hr.out]
          exact ⟨rfl, BE.out⟩
        · have hs1 : 0 < s := by rcases Nat.eq_zero_or_pos s with h | h; exact absurd (H0.out h) (by simp); exact h
          have hm : s ≤ 9223372036854775808 := by rw [sgn_true] at hz0; omega
          have Hr : Hid (r = -(s : Int)) := hz0
          clear HR HZ H0 hz0 h1 h2
          go_wp2
          go_ret2
          have er : r = -((s : Int) - 1) - 1 := by rw [Hr.out]; omega
          rw [er]
          exact ⟨rfl, BE.out⟩
      · cases b1
        · have hm : 9223372036854775807 < s := by rw [sgn_false] at hz0; omega
          clear HR HZ H0 hz0 h1
          go_wp2
          go_ret2
          exact ⟨rfl, BE.out⟩
        · have hs1 : 0 < s := by rcases Nat.eq_zero_or_pos s with h | h; exact absurd (H0.out h) (by simp); exact h
          have hm : 9223372036854775808 < s := by rw [sgn_true] at hz0; omega
          clear HR HZ H0 hz0 h1
          go_wp2
          go_ret2
          exact ⟨rfl, BE.out⟩
    · obtain ⟨k, rfl⟩ : ∃ j, k = j + 1 := ⟨k - 1, by omega⟩
      have hk0 : 0 ≤ ((k + 1 : Nat) : Int) - 1 := by omega
      have hkt : (((k + 1 : Nat) : Int) - 1).toNat = k := by omega
      have hkl : ((k + 1 : Nat) : Int) - 1 < (n1 : Int) := by omega
      obtain ⟨y, hy⟩ : ∃ y, l[k]? = some y := ⟨_, List.getElem?_eq_getElem (by have := Hn.out; omega)⟩
      have hyb : y < 4294967296 := HL.out.at hy
      obtain ⟨g, off, rfl, _, hc⟩ := hA (by have := Hn.out; omega)
      have hcy := hc _ _ hy
      have hd := drop_cons hy
      have Hd : Hid (Num.val (l.drop k) = s * 4294967296 + y) := by show _ = _; rw [hd, Num.val_cons, Hs.out, Num.K_eq]; omega
      have hsb : s < 4294967296 := by
        rw [Hs.out]
        have h1 := Num.val_lt (l.drop (k + 1)) (HL.out.drop _)
        have h2 : (l.drop (k + 1)).length ≤ 1 := by rw [List.length_drop]; have := Hn.out; omega
        exact Nat.lt_of_lt_of_le h1 (Nat.le_trans (Nat.pow_le_pow_right Num.K_pos h2) (by decide))
      clear hc hy hd h0
      go_wp2
      go_round
      case rel => exact ⟨k, by omega, by go_num, s * 4294967296 + y, by go_num, Hd.out.symm⟩
      case measure => simp [intOf] <;> omega
theorem rismall_yes {w : World} {v : Value} {z : Int} {k : Nat} (h : Iv w v z k) (hk : k ≤ 900) (h1 : -9223372036854775808 ≤ z) (h2 : z ≤ 9223372036854775807) : Calls Tryd.prog 35 #[v] w (SmallEnd z true w) := by
  have h' := h
  obtain ⟨b, A, n, d, m, rfl, _⟩ := h'
  exact rismall_x h hk (by omega) z true (.inl ⟨h1, h2, rfl, rfl⟩)
theorem rismall_no {w : World} {v : Value} {z : Int} {k : Nat} (h : Iv w v z k) (hk : k ≤ 900) (h1 : z < -9223372036854775808 ∨ 9223372036854775807 < z) : Calls Tryd.prog 35 #[v] w (SmallEnd 0 false w) := by
  have h' := h
  obtain ⟨b, A, n, d, m, rfl, _⟩ := h'
  rcases Nat.lt_or_ge z.natAbs 18446744073709551616 with h2 | h2
  · exact rismall_x h hk h2 0 false (.inr ⟨by omega, rfl, rfl⟩)
  · exact rismall_big h hk h2
end Go.Proofs.YthcoemkbdllcfaaDoor
