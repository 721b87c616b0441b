/-
  The walks of the reference's Size and of the law package's small.
-/
import Derived.Test.YtmklladpalcjpaaDoorCodS
namespace Go.Proofs.YtmklladpalcjpaaDoor
open Go.RowKit Cod
set_option linter.unusedVariables false

theorem sizeL_append : ∀ (k r : List Nd), sizeL (k ++ r) = sizeL k + sizeL r
  | [], r => by rw [List.nil_append, sizeL, Nat.zero_add]
  | n :: k, r => by rw [List.cons_append, sizeL, sizeL, sizeL_append k r, Nat.add_assoc]
theorem sizeL_take (k : List Nd) (i : Nat) : sizeL (k.take i) ≤ sizeL k := by
  have h := sizeL_append (k.take i) (k.drop i)
  rw [List.take_append_drop] at h
  omega
theorem sizeL_next (k : List Nd) (i : Nat) (n : Nd) (h : k[i]? = some n) : sizeL (k.take (i + 1)) = sizeL (k.take i) + size n := by
  rw [List.take_add_one, h, sizeL_append]
  show _ + sizeL [n] = _
  rw [sizeL, sizeL, Nat.add_zero]
def IntAnd (n : Nat) (w : World) (e : Ending) (w' : World) : Prop := e = .returned (.int .i64 (n : Int)) ∧ Below w.heap.size w w'
/-- Between the rounds of Size. -/
def SzA (t : List UInt8) (k : List Nd) (lim i Z : Nat) : Prop := Z = min (1 + t.length + sizeL (k.take i)) (lim + 1)
theorem SzA.step {t : List UInt8} {k : List Nd} {lim i Z : Nat} {n : Nd} (h : SzA t k lim i Z) (hZ : Z ≤ lim) (hn : k[i]? = some n) : SzA t k lim (i + 1) (Z + min (size n) (lim - Z + 1)) := by
  unfold SzA at h ⊢
  rw [sizeL_next k i n hn]
  omega
theorem SzA.done {l : Bool} {t : List UInt8} {k : List Nd} {lim i Z : Nat} (h : SzA t k lim i Z) (hi : k.length ≤ i ∨ lim < Z) : Z = min (size (.mk l t k)) (lim + 1) := by
  unfold SzA at h
  rw [size]
  rcases hi with hi | hi
  · rw [List.take_of_length_le hi] at h
    exact h
  · have := sizeL_take k i
    omega
set_option maxRecDepth 20000 in
set_option maxHeartbeats 1000000 in
theorem size_walk : ∀ (x : Nd) (lim : Nat) (z : Int) (v : Value) (w : World), RdN w x v → lim ≤ 1000000 → z = (lim : Int) → Calls Tryd.prog 16 #[v, .int .i64 z] w (IntAnd (min (size x) (lim + 1)) w) := by
  intro x
  induction x using nd_ind with
  | h l t k ih =>
  intro lim z v w hv hl hz
  subst hz
  obtain ⟨A, m, c, rfl, Hm, hmc, hc, ht, hk⟩ := hv.named
  obtain ⟨s, hs⟩ : ∃ s, ofL t = s := ⟨_, rfl⟩
  have Hs : Hid (s.size = t.length) := by rw [← hs]; exact ofL_size t
  have hsz : s.size ≤ 140737488351232 := by rw [Hs.out]; exact ht
  rw [hs]
  have B0 := up_1 w (.cells #[.bool l, .string s, .slice A m c] 25)
  have ka := Bn.new w (.bool l) (.string s) (.slice A m c) 25
  have hk := hk.below B0
  clear hv hs ht
  go_enter Tryd.func16, Tryd.ntmps16
  have hZ0 : Hid (SzA t k lim 0 (1 + min s.size lim)) := by
    show _ = _
    rw [Hs.out, List.take_zero, sizeL]
    omega
  by_cases hmin : lim < s.size
  · have hZ0 : Hid (SzA t k lim 0 (1 + lim)) := by
      have := hZ0.out
      rwa [show min s.size lim = lim by omega] at this
    go_wp2
    go_loopw [5, 6] (fun y z wr => ∃ i Z : Nat, i ≤ m ∧ z = .int .i64 (i : Int) ∧ y = .int .i64 (Z : Int) ∧ Z ≤ lim + 1 ∧ Hid (SzA t k lim i Z) ∧ Bn wr w.heap.size (.bool l) (.string s) (.slice A m c) ∧ RdS wr k (.slice A m c) ∧ Below w.heap.size w wr) (fun _ z _ => m - (intOf z).toNat)
    case atStart => exact ⟨0, 1 + lim, Nat.zero_le _, rfl, by go_num, by omega, hZ0, ka, hk, B0⟩
    case round =>
      clear ka hk B0
      obtain ⟨i, Z, hi, rfl, rfl, hZl, hZ, ka, hk, B0⟩ := hrel
      have ka2 := ka.2.2.1
      by_cases hlt : i < m
      · by_cases hZm : Z ≤ lim
        · obtain ⟨n, hn⟩ : ∃ n, k[i]? = some n := ⟨_, List.getElem?_eq_getElem (by have := Hm.out; omega)⟩
          obtain ⟨g, off, u0, u1, u2, rfl, c0, c1, c2, hN⟩ := hk.at hn
          have IH := Lib.hid (ih n (List.mem_of_getElem? hn) (lim - Z))
          have hst := Lib.hid (SzA.step hZ.out hZm hn)
          obtain ⟨q, hq⟩ : ∃ q, min (size n) (lim - Z + 1) = q := ⟨_, rfl⟩
          have hq1 : q ≤ lim - Z + 1 := by omega
          rw [hq] at IH hst
          clear hn hq
          go_wp2_with (first | (go_at_call 16; (with_reducible refine (IH.out _ _ _ hN (by omega) (by omega)).mono ?_); rintro e w2 ⟨rfl, bb⟩; have hk := hk.below bb; have ka := ka.below bb; have B0 := B0.trans (bb.mono B0.size); clear bb))
          go_roundw
          case rel => exact ⟨i + 1, Z + q, by omega, by go_num, by go_num, by omega, hst, ka, hk, B0⟩
          case measure => simp [intOf]; omega
        · have hD : Hid (Z = min (size (.mk l t k)) (lim + 1)) := hZ.out.done (.inr (by omega))
          go_wp2
          go_ret
          rw [← hD.out]
          exact ⟨rfl, B0⟩
      · have hD : Hid (Z = min (size (.mk l t k)) (lim + 1)) := hZ.out.done (.inl (by have := Hm.out; omega))
        go_wp2
        go_ret
        rw [← hD.out]
        exact ⟨rfl, B0⟩
  · have hZ0 : Hid (SzA t k lim 0 (1 + s.size)) := by
      have := hZ0.out
      rwa [show min s.size lim = s.size by omega] at this
    go_wp2
    go_loopw [5, 6] (fun y z wr => ∃ i Z : Nat, i ≤ m ∧ z = .int .i64 (i : Int) ∧ y = .int .i64 (Z : Int) ∧ Z ≤ lim + 1 ∧ Hid (SzA t k lim i Z) ∧ Bn wr w.heap.size (.bool l) (.string s) (.slice A m c) ∧ RdS wr k (.slice A m c) ∧ Below w.heap.size w wr) (fun _ z _ => m - (intOf z).toNat)
    case atStart => exact ⟨0, 1 + s.size, Nat.zero_le _, rfl, by go_num, by omega, hZ0, ka, hk, B0⟩
    case round =>
      clear ka hk B0
      obtain ⟨i, Z, hi, rfl, rfl, hZl, hZ, ka, hk, B0⟩ := hrel
      have ka2 := ka.2.2.1
      by_cases hlt : i < m
      · by_cases hZm : Z ≤ lim
        · obtain ⟨n, hn⟩ : ∃ n, k[i]? = some n := ⟨_, List.getElem?_eq_getElem (by have := Hm.out; omega)⟩
          obtain ⟨g, off, u0, u1, u2, rfl, c0, c1, c2, hN⟩ := hk.at hn
          have IH := Lib.hid (ih n (List.mem_of_getElem? hn) (lim - Z))
          have hst := Lib.hid (SzA.step hZ.out hZm hn)
          obtain ⟨q, hq⟩ : ∃ q, min (size n) (lim - Z + 1) = q := ⟨_, rfl⟩
          have hq1 : q ≤ lim - Z + 1 := by omega
          rw [hq] at IH hst
          clear hn hq
          go_wp2_with (first | (go_at_call 16; (with_reducible refine (IH.out _ _ _ hN (by omega) (by omega)).mono ?_); rintro e w2 ⟨rfl, bb⟩; have hk := hk.below bb; have ka := ka.below bb; have B0 := B0.trans (bb.mono B0.size); clear bb))
          go_roundw
          case rel => exact ⟨i + 1, Z + q, by omega, by go_num, by go_num, by omega, hst, ka, hk, B0⟩
          case measure => simp [intOf]; omega
        · have hD : Hid (Z = min (size (.mk l t k)) (lim + 1)) := hZ.out.done (.inr (by omega))
          go_wp2
          go_ret
          rw [← hD.out]
          exact ⟨rfl, B0⟩
      · have hD : Hid (Z = min (size (.mk l t k)) (lim + 1)) := hZ.out.done (.inl (by have := Hm.out; omega))
        go_wp2
        go_ret
        rw [← hD.out]
        exact ⟨rfl, B0⟩
set_option maxRecDepth 20000 in
theorem small_walk (x : Nd) (v : Value) (w : World) (hv : RdN w x v) : Calls Tryd.prog 14 #[v] w (BoolAnd (decide (size x ≤ 21000)) w) := by
  have HW := Lib.hid (fun v w h => size_walk x 21000 21000 v w h (by omega) rfl)
  obtain ⟨q, hq⟩ : ∃ q, min (size x) (21000 + 1) = q := ⟨_, rfl⟩
  rw [hq] at HW
  obtain ⟨l, t, k⟩ := x
  obtain ⟨A, m, c, rfl, -, -, -, -, -⟩ := hv.named
  have hv := hv.below (up_1 w (.cells #[.bool l, .string (ofL t), .slice A m c] 25))
  have B0 := up_1 w (.cells #[.bool l, .string (ofL t), .slice A m c] 25)
  go_enter Tryd.func14, Tryd.ntmps14
  by_cases hs : size (.mk l t k) ≤ 21000
  · have hd : Hid (decide (size (.mk l t k) ≤ 21000) = true) := decide_eq_true hs
    have hq1 : Hid (decide ((q : Int) ≤ 21000) = true) := decide_eq_true (by omega)
    clear hq hs
    go_wp2_with (first | (go_at_call 16; (with_reducible refine (HW.out _ _ hv).mono ?_); rintro e w2 ⟨rfl, bb⟩; have B0 := B0.trans (bb.mono B0.size); clear bb))
    go_ret
    rw [hd.out]
    exact ⟨congrArg (fun b => Ending.returned (Value.bool b)) hq1.out, B0⟩
  · have hd : Hid (decide (size (.mk l t k) ≤ 21000) = false) := decide_eq_false hs
    have hq1 : Hid (decide ((q : Int) ≤ 21000) = false) := decide_eq_false (by omega)
    clear hq hs
    go_wp2_with (first | (go_at_call 16; (with_reducible refine (HW.out _ _ hv).mono ?_); rintro e w2 ⟨rfl, bb⟩; have B0 := B0.trans (bb.mono B0.size); clear bb))
    go_ret
    rw [hd.out]
    exact ⟨congrArg (fun b => Ending.returned (Value.bool b)) hq1.out, B0⟩
end Go.Proofs.YtmklladpalcjpaaDoor
