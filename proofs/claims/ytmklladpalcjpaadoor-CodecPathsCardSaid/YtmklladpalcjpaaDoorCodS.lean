/-
  The walks of the reference's Same and Size, and of the law package's small.
-/
import Derived.Test.YtmklladpalcjpaaDoorCodM
import Derived.Test.YtmklladpalcjpaaDoorRows
import Derived.WalkKit
import Derived.WalkSpells
import Derived.Lib.Hide
import Derived.BigQuiet
import Derived.Deep.QuietTactic
import Derived.LoopTactic
import Derived.Deep.RegionWith
import Derived.Deep.RegionHeld3
import Derived.Deep.DrawnRows
import Derived.Laws.Strings
namespace Go.Proofs.YtmklladpalcjpaaDoor
open Go.RowKit Cod
set_option linter.unusedVariables false

theorem nd_ind {P : Nd → Prop} (h : ∀ l t k, (∀ n ∈ k, P n) → P (.mk l t k)) : ∀ n, P n
  | .mk l t k => h l t k (fun n hn => nd_ind h n)
termination_by x => SizeOf.sizeOf x
decreasing_by
  have := List.sizeOf_lt_of_mem hn
  simp
  omega
noncomputable def eqN (x y : Nd) : Bool := @decide (x = y) (Classical.propDecidable _)
theorem eqN_yes {x y : Nd} (h : x = y) : eqN x y = true := by unfold eqN; exact @decide_eq_true _ (Classical.propDecidable _) h
theorem eqN_no {x y : Nd} (h : ¬ x = y) : eqN x y = false := by unfold eqN; exact @decide_eq_false _ (Classical.propDecidable _) h
def BoolAnd (b : Bool) (w : World) (e : Ending) (w' : World) : Prop := e = .returned (.bool b) ∧ Below w.heap.size w w'
theorem same_no (l l' : Bool) (t t' : List UInt8) (k k' : List Nd) (va vb : Value) (w : World) (ha : RdN w (.mk l t k) va) (hb : RdN w (.mk l' t' k') vb) (h : ¬ (l = l' ∧ t = t' ∧ k.length = k'.length)) :
    Calls Tryd.prog 13 #[va, vb] w (BoolAnd false w) := by
  obtain ⟨A, m, c, rfl, Hm, hmc, hc, ht, hk⟩ := ha.named
  obtain ⟨A', m', c', rfl, Hm', hmc', hc', ht', hk'⟩ := hb.named
  have B0 := up_2 w (.cells #[.bool l, .string (ofL t), .slice A m c] 25) (.cells #[.bool l', .string (ofL t'), .slice A' m' c'] 25)
  go_enter Tryd.func13, Tryd.ntmps13
  by_cases h1 : l = l'
  · subst h1
    by_cases h2 : t = t'
    · subst h2
      have h3 : ¬ m = m' := fun e => h ⟨rfl, rfl, by rw [Hm.out, Hm'.out, e]⟩
      have h4 : ((m : Int) == (m' : Int)) = false := by simp; omega
      clear h h3
      go_wp2
      go_ret
      exact ⟨rfl, B0⟩
    · have h4 : ¬ (ofL t).toList = (ofL t').toList := fun e => h2 (by rwa [ByteArray.toList_eq, ByteArray.toList_eq] at e)
      clear h
      go_wp2
      go_ret
      exact ⟨rfl, B0⟩
  · have h4 : (l == l') = false := by simp [h1]
    clear h
    go_wp2
    go_ret
    exact ⟨rfl, B0⟩
set_option maxRecDepth 20000 in
set_option maxHeartbeats 1000000 in
theorem same_yes : ∀ (x y : Nd) (va vb : Value) (w : World), RdN w x va → RdN w y vb → Calls Tryd.prog 13 #[va, vb] w (BoolAnd (eqN x y) w) := by
  intro x
  induction x using nd_ind with
  | h l t k ih =>
  rintro ⟨l', t', k'⟩ va vb w ha hb
  by_cases hsame : l = l' ∧ t = t' ∧ k.length = k'.length
  · obtain ⟨rfl, rfl, hlen⟩ := hsame
    obtain ⟨A, m, c, rfl, Hm, hmc, hc, ht, hk⟩ := ha.named
    obtain ⟨A', m', c', rfl, Hm', hmc', hc', ht', hk'⟩ := hb.named
    obtain rfl : m = m' := by rw [← Hm.out, ← Hm'.out, hlen]
    have B0 := up_2 w (.cells #[.bool l, .string (ofL t), .slice A m c] 25) (.cells #[.bool l, .string (ofL t), .slice A' m c'] 25)
    have ka := (Bn.new w (.bool l) (.string (ofL t)) (.slice A m c) 25).up (.cells #[.bool l, .string (ofL t), .slice A' m c'] 25)
    have kb := Bn.new (w.alloc (.cells #[.bool l, .string (ofL t), .slice A m c] 25)) (.bool l) (.string (ofL t)) (.slice A' m c') 25
    rw [show (w.alloc (.cells #[.bool l, .string (ofL t), .slice A m c] 25)).heap.size = w.heap.size + 1 by simp] at kb
    have hk := hk.below B0
    have hk' := hk'.below B0
    have hz : ((m : Int) == (m : Int)) = true := by simp
    clear ha hb hlen
    go_enter Tryd.func13, Tryd.ntmps13
    go_wp2
    go_loopw [5] (fun z wr => ∃ i : Nat, i ≤ m ∧ z = .int .i64 (i : Int) ∧ Hid (k.take i = k'.take i) ∧ Bn wr w.heap.size (.bool l) (.string (ofL t)) (.slice A m c) ∧ Bn wr (w.heap.size + 1) (.bool l) (.string (ofL t)) (.slice A' m c') ∧ RdS wr k (.slice A m c) ∧ RdS wr k' (.slice A' m c') ∧ Below w.heap.size w wr) (fun z _ => m - (intOf z).toNat)
    case atStart => exact ⟨0, Nat.zero_le _, rfl, Lib.hid (by simp), ka, kb, hk, hk', B0⟩
    case round =>
      clear ka kb hk hk' B0
      obtain ⟨i, hi, rfl, hE, ka, kb, hk, hk', B0⟩ := hrel
      by_cases hlt : i < m
      · obtain ⟨n, hn⟩ : ∃ n, k[i]? = some n := ⟨_, List.getElem?_eq_getElem (by have := Hm.out; omega)⟩
        obtain ⟨n', hn'⟩ : ∃ n, k'[i]? = some n := ⟨_, List.getElem?_eq_getElem (by have := Hm'.out; omega)⟩
        obtain ⟨g, off, u0, u1, u2, rfl, c0, c1, c2, hN⟩ := hk.at hn
        obtain ⟨g', off', x0, x1, x2, rfl, d0, d1, d2, hN'⟩ := hk'.at hn'
        have IH := Lib.hid (ih n (List.mem_of_getElem? hn) n')
        have Hn := Lib.hid hn
        have Hn' := Lib.hid hn'
        clear hn hn'
        have ka2 := ka.2.2.1
        have kb2 := kb.2.2.1
        have dr : Below wr.heap.size wr wr.drew := (Below.refl _ _).drew
        have hN := hN.below dr
        have hN' := hN'.below dr
        have hk := hk.below dr
        have hk' := hk'.below dr
        have ka := ka.below dr
        have kb := kb.below dr
        have B0 := B0.trans (dr.mono B0.size)
        have c0 := cell_below c0 dr
        have c1 := cell_below c1 dr
        have c2 := cell_below c2 dr
        have d0 := cell_below d0 dr
        have d1 := cell_below d1 dr
        have d2 := cell_below d2 dr
        have ka2 := ka.2.2.1
        have kb2 := kb.2.2.1
        clear dr
        by_cases hnn : n = n'
        · have IHE : Hid (eqN n n' = true) := eqN_yes hnn
          have hE := Lib.hid (show k.take (i + 1) = k'.take (i + 1) by rw [List.take_add_one, List.take_add_one, hE.out, Hn.out, Hn'.out, hnn])
          clear hnn
          go_wp2_with fail
          go_region_held3 (fun W => W.cell? ⟨w.heap.size, 2, none⟩ = some (.slice (some ⟨g, off, none⟩) m c) ∧ W.cell? ⟨w.heap.size + 1, 2, none⟩ = some (.slice (some ⟨g', off', none⟩) m c') ∧ W.cell? ⟨g, off + i * 3, none⟩ = some u0 ∧ W.cell? ⟨g, off + i * 3 + 1, none⟩ = some u1 ∧ W.cell? ⟨g, off + i * 3 + 2, none⟩ = some u2 ∧ W.cell? ⟨g', off' + i * 3, none⟩ = some x0 ∧ W.cell? ⟨g', off' + i * 3 + 1, none⟩ = some x1 ∧ W.cell? ⟨g', off' + i * 3 + 2, none⟩ = some x2) (exact ⟨ka2, kb2, c0, c1, c2, d0, d1, d2⟩)
            (first | (go_at_call 13; (with_reducible refine (IH.out _ _ _ hN hN').mono ?_); rintro e w2 ⟨rfl, bb⟩; rw [IHE.out]; have hk := hk.below bb; have hk' := hk'.below bb; have ka := ka.below bb; have kb := kb.below bb; have c0 := cell_below c0 bb; have c1 := cell_below c1 bb; have c2 := cell_below c2 bb; have d0 := cell_below d0 bb; have d1 := cell_below d1 bb; have d2 := cell_below d2 bb; have ka2 := ka.2.2.1; have kb2 := kb.2.2.1; have B0 := B0.trans (bb.mono B0.size); clear bb))
          go_wp2
          go_roundw
          case rel => exact ⟨i + 1, by omega, by go_num, hE, ka, kb, hk, hk', B0⟩
          case measure => simp [intOf]; omega
        · have IHE : Hid (eqN n n' = false) := eqN_no hnn
          have hF : Hid (eqN (.mk l t k) (.mk l t k') = false) := eqN_no (fun e => hnn (by injection e with _ _ e; have h1 := Hn.out; rw [e, Hn'.out] at h1; exact (Option.some.inj h1).symm))
          clear hnn
          go_wp2_with fail
          go_region_held3 (fun W => W.cell? ⟨w.heap.size, 2, none⟩ = some (.slice (some ⟨g, off, none⟩) m c) ∧ W.cell? ⟨w.heap.size + 1, 2, none⟩ = some (.slice (some ⟨g', off', none⟩) m c') ∧ W.cell? ⟨g, off + i * 3, none⟩ = some u0 ∧ W.cell? ⟨g, off + i * 3 + 1, none⟩ = some u1 ∧ W.cell? ⟨g, off + i * 3 + 2, none⟩ = some u2 ∧ W.cell? ⟨g', off' + i * 3, none⟩ = some x0 ∧ W.cell? ⟨g', off' + i * 3 + 1, none⟩ = some x1 ∧ W.cell? ⟨g', off' + i * 3 + 2, none⟩ = some x2) (exact ⟨ka2, kb2, c0, c1, c2, d0, d1, d2⟩)
            (first | (go_at_call 13; (with_reducible refine (IH.out _ _ _ hN hN').mono ?_); rintro e w2 ⟨rfl, bb⟩; rw [IHE.out]; have hk := hk.below bb; have hk' := hk'.below bb; have ka := ka.below bb; have kb := kb.below bb; have c0 := cell_below c0 bb; have c1 := cell_below c1 bb; have c2 := cell_below c2 bb; have d0 := cell_below d0 bb; have d1 := cell_below d1 bb; have d2 := cell_below d2 bb; have ka2 := ka.2.2.1; have kb2 := kb.2.2.1; have B0 := B0.trans (bb.mono B0.size); clear bb))
          go_wp2
          go_ret
          rw [hF.out]
          exact ⟨rfl, B0⟩
      · obtain rfl : i = m := by omega
        have hkk : k = k' := by have := hE.out; rwa [List.take_of_length_le (by have := Hm.out; omega), List.take_of_length_le (by have := Hm'.out; omega)] at this
        have hF : Hid (eqN (.mk l t k) (.mk l t k') = true) := eqN_yes (by rw [hkk])
        have ka2 := ka.2.2.1
        go_wp2
        go_ret
        rw [hF.out]
        exact ⟨rfl, B0⟩
  · rw [eqN_no (fun e => hsame (by cases e; exact ⟨rfl, rfl, rfl⟩))]
    exact same_no l l' t t' k k' va vb w ha hb hsame
end Go.Proofs.YtmklladpalcjpaaDoor
