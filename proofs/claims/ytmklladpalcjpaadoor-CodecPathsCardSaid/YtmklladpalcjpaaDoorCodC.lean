/-
  The walk of codec.check: the first error of a tree's nodes.
-/
import Derived.Test.YtmklladpalcjpaaDoorCodE
import Derived.Test.YtmklladpalcjpaaDoorCodA
namespace Go.Proofs.YtmklladpalcjpaaDoor
open Go.RowKit Cod
set_option linter.unusedVariables false
theorem ofL_ne {t : List UInt8} (h : ¬ t = []) : ¬ (ofL t).toList = [] := fun e => h (by rwa [ByteArray.toList_eq] at e)
set_option maxRecDepth 20000 in
set_option maxHeartbeats 1000000 in
theorem check_walk : ∀ (x : Nd) (b : Nat) (z : Int) (v : Value) (w : World), RdN w x v → z + (b : Int) = 13 → 1 ≤ z → Calls Tryd.prog 23 #[v, .int .i64 z] w (IntAnd (errOf (enc b x)) w) := by
  intro x
  induction x using nd_ind with
  | h l t k ih =>
  intro b z v w hv hz hz1
  obtain ⟨A, m, c, rfl, Hm, hmc, hc, ht, hk⟩ := hv.named
  have B0 := up_1 w (.cells #[.bool l, .string (ofL t), .slice A m c] 25)
  have ka := Bn.new w (.bool l) (.string (ofL t)) (.slice A m c) 25
  have hk := hk.below B0
  have hzb : z ≤ 13 := by omega
  have ka0 := ka.1
  have ka1 := ka.2.1
  have ka2 := ka.2.2.1
  have Hk : Hid (k.length = m) := Hm
  clear hv ht
  cases l with
  | true =>
    by_cases ht0 : t = []
    · subst ht0
      rw [show ofL [] = (⟨#[]⟩ : ByteArray) from rfl] at B0 ka hk ka0 ka1 ka2 ⊢
      have hnb : Hid (¬ bad true [] k = true) := by show ¬ _; simp [bad]
      by_cases hlong : 12 < z
      · have hT : Hid (errOf (enc b (.mk true [] k)) = 5) := err_long hnb.out (.inl (by omega))
        clear ih hz
        go_enter Tryd.func23, Tryd.ntmps23
        go_wp2
        go_ret
        rw [hT.out]
        exact ⟨rfl, B0⟩
      · by_cases hmany : 256 < m
        · have hT : Hid (errOf (enc b (.mk true [] k)) = 5) := err_long hnb.out (.inr (by have := Hk.out; omega))
          clear ih hz
          go_enter Tryd.func23, Tryd.ntmps23
          go_wp2
          go_ret
          rw [hT.out]
          exact ⟨rfl, B0⟩
        · have hT0 : errOf (enc b (.mk true [] k)) = errOf (encL (b - 1) k) := err_kids hnb.out (by have := Hk.out; omega)
          obtain ⟨T, hT⟩ : ∃ T, errOf (encL (b - 1) k) = T := ⟨_, rfl⟩
          rw [hT0, hT]
          have hA : Hid (ChA T (b - 1) k 0) := by show _ = _; exact hT.symm
          have hzb : Hid (z + 1 + ((b - 1 : Nat) : Int) = 13) := by show _ = _; omega
          clear hT hT0 hz
          go_enter Tryd.func23, Tryd.ntmps23
          go_wp2
          go_loopw [37] (fun y wr => ∃ i : Nat, i ≤ m ∧ y = .int .i64 (i : Int) ∧ Hid (ChA T (b - 1) k i) ∧ RdS wr k (.slice A m c) ∧ Below w.heap.size w wr) (fun y _ => m - (intOf y).toNat)
          case atStart => exact ⟨0, Nat.zero_le _, rfl, hA, hk, B0⟩
          case round =>
            clear hk B0 ka ka0 ka1 ka2 hA
            obtain ⟨i, hi, rfl, hA, hk, B0⟩ := hrel
            by_cases hlt : i < m
            · obtain ⟨n, hn⟩ : ∃ n, k[i]? = some n := ⟨_, List.getElem?_eq_getElem (by have := Hk.out; omega)⟩
              obtain ⟨g, off, u0, u1, u2, rfl, c0, c1, c2, hM⟩ := hk.at hn
              have IH := Lib.hid (ih n (List.mem_of_getElem? hn) (b - 1) (z + 1))
              obtain ⟨ln, tn, kn⟩ := n
              obtain ⟨An, mn, cn, hag, -, -, -, -, -⟩ := hM.named
              simp only [Value.agg.injEq, Array.mk.injEq, List.cons.injEq, and_true] at hag
              obtain ⟨rfl, rfl, rfl⟩ := hag
              obtain ⟨q, hq⟩ : ∃ q, errOf (enc (b - 1) (.mk ln tn kn)) = q := ⟨_, rfl⟩
              rw [hq] at IH
              have hM := hM.below (up_1 _ (.cells #[.bool ln, .string (ofL tn), .slice An mn cn] 25))
              have qb := Bn.new wr (.bool ln) (.string (ofL tn)) (.slice An mn cn) 25
              have qb_0 := qb.1
              have qb_1 := qb.2.1
              have qb_2 := qb.2.2.1
              have hk := hk.below (up_1 wr (.cells #[.bool ln, .string (ofL tn), .slice An mn cn] 25))
              have B0 := B0.alloc B0.size (.cells #[.bool ln, .string (ofL tn), .slice An mn cn] 25)
              by_cases hq0 : q = 0
              · subst hq0
                have hst := Lib.hid (hA.out.step hn hq)
                clear hn hq ih
                go_wp2_with (first | (go_at_call 23; (with_reducible refine (IH.out _ _ hM hzb.out (by omega)).mono ?_); rintro e w2 ⟨rfl, bb⟩; have hk := hk.below bb; have B0 := B0.trans (bb.mono B0.size); clear bb))
                go_roundw
                case rel => exact ⟨i + 1, by omega, by go_num, hst, hk, B0⟩
                case measure => simp [intOf]; omega
              · have hst := Lib.hid (hA.out.bad hn (by rw [hq]; exact hq0))
                rw [hq] at hst
                have hqb : ((q : Int) != 0) = true := by simp; omega
                clear hn hq ih hq0
                go_wp2_with (first | (go_at_call 23; (with_reducible refine (IH.out _ _ hM hzb.out (by omega)).mono ?_); rintro e w2 ⟨rfl, bb⟩; have hk := hk.below bb; have B0 := B0.trans (bb.mono B0.size); clear bb))
                go_ret
                rw [hst.out]
                exact ⟨rfl, B0⟩
            · have hD := Lib.hid (hA.out.done (by have := Hk.out; omega))
              go_wp2
              go_ret
              rw [hD.out]
              exact ⟨rfl, B0⟩
    · have hte := ofL_ne ht0
      have hT : Hid (errOf (enc b (.mk true t k)) = 1) := err_bad (by simp [bad]; simpa using ht0)
      clear ih hz
      go_enter Tryd.func23, Tryd.ntmps23
      go_wp2
      go_ret
      rw [hT.out]
      exact ⟨rfl, B0⟩
  | false =>
    by_cases hm0 : m = 0
    · subst hm0
      have hnb : Hid (¬ bad false t k = true) := by show ¬ _; have := List.eq_nil_of_length_eq_zero Hk.out; simp [bad, this]
      by_cases hlong : 12 < z
      · have hT : Hid (errOf (enc b (.mk false t k)) = 5) := err_long hnb.out (.inl (by omega))
        clear ih hz
        go_enter Tryd.func23, Tryd.ntmps23
        go_wp2
        go_ret
        rw [hT.out]
        exact ⟨rfl, B0⟩
      · have hT : Hid (errOf (enc b (.mk false t k)) = 0) := by
          have h := err_kids (b := b) hnb.out (by have := Hk.out; omega)
          rw [List.eq_nil_of_length_eq_zero Hk.out] at h ⊢
          show _ = _
          rw [h, encL]
          rfl
        clear ih hz
        go_enter Tryd.func23, Tryd.ntmps23
        go_wp2
        go_loopw [37] (fun y wr => y = .int .i64 0 ∧ Below w.heap.size w wr) (fun y _ => 0)
        case atStart => exact ⟨rfl, B0⟩
        case round =>
          clear hk B0 ka ka0 ka1 ka2
          obtain ⟨rfl, B0⟩ := hrel
          go_wp2
          go_ret
          rw [hT.out]
          exact ⟨rfl, B0⟩
    · have hk0 : ¬ k = [] := fun e => hm0 (by have := Hk.out; rw [e] at this; exact this.symm)
      have hm1 : 0 < m := by omega
      have hT : Hid (errOf (enc b (.mk false t k)) = 1) := err_bad (by simp [bad]; exact hk0)
      clear ih hz
      go_enter Tryd.func23, Tryd.ntmps23
      go_wp2
      go_ret
      rw [hT.out]
      exact ⟨rfl, B0⟩
end Go.Proofs.YtmklladpalcjpaaDoor
