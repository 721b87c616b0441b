/-
  The walk of garmentlaw07.light.
-/
import Derived.Test.YtlinmhmhgnhmeaaDigA
namespace Go.Proofs.Ytlinmhmhgnhmeaa
open Go.RowKit Dig
set_option linter.unusedVariables false
theorem RdU.len {w : World} {l : List Nat} {A : Option Addr} {m c : Nat} (h : RdU w l (.slice A m c)) : l.length = m := by
  obtain ⟨_, _, e, _⟩ := h
  simp only [Value.slice.injEq] at e
  exact e.2.1.symm
theorem below_drewN (n : Nat) (w : World) : Below w.heap.size w (w.drewN n) := by
  have b := Below.refl w.heap.size w
  exact ⟨b.os, b.tape, b.output, b.size, b.block⟩
def Lt (L : List (List UInt8)) : Prop := L.length ≤ 30 ∧ ∀ s ∈ L, s.length ≤ 200
def BoolQ (b : Bool) (w : World) (e : Ending) (w' : World) : Prop := e = .returned (.bool b) ∧ w = w'
set_option maxRecDepth 20000 in
set_option maxHeartbeats 1000000 in
theorem light_yes (L : List (List UInt8)) (v : Value) (w : World) (h : RdT w L v) (hL : Lt L) : Calls Try.prog 18 #[v] w (BoolQ true w) := by
  obtain ⟨A, m, c, rfl, Hm, hmc, hc⟩ := h.named
  have hm : m ≤ 30 := by have := Hm.out; have := hL.1; omega
  have HL := Lib.hid hL
  clear hL
  go_enter Try.func18, Try.ntmps18
  go_wp2
  go_loopw [3] (fun y wr => ∃ i : Nat, i ≤ m ∧ y = .int .i64 (i : Int) ∧ w = wr) (fun y _ => m - (intOf y).toNat)
  case atStart => exact ⟨0, Nat.zero_le _, rfl, rfl⟩
  case round =>
    obtain ⟨i, hi, rfl, rfl⟩ := hrel
    by_cases hlt : i < m
    · obtain ⟨s, hs⟩ : ∃ s, L[i]? = some s := ⟨_, List.getElem?_eq_getElem (by have := Hm.out; omega)⟩
      obtain ⟨g, off, rfl, hcell, hsl⟩ := h.at hs
      have h200 : (ofL s).size ≤ 200 := HL.out.2 s (List.mem_of_getElem? hs)
      clear hs
      go_wp2
      go_roundw
      case rel => exact ⟨i + 1, by omega, by go_num, by first | trivial | rfl⟩
      case measure => simp [intOf]; omega
    · go_wp2
      go_ret
      exact ⟨rfl, rfl⟩
set_option maxRecDepth 20000 in
set_option maxHeartbeats 1000000 in
theorem light_no (L : List (List UInt8)) (v : Value) (w : World) (h : RdT w L v) (hL : ¬ Lt L) : Calls Try.prog 18 #[v] w (BoolQ false w) := by
  obtain ⟨A, m, c, rfl, Hm, hmc, hc⟩ := h.named
  by_cases hm : 30 < m
  · clear hL
    go_enter Try.func18, Try.ntmps18
    go_wp2
    go_ret
    exact ⟨rfl, rfl⟩
  · have HL := Lib.hid hL
    clear hL
    go_enter Try.func18, Try.ntmps18
    go_wp2
    go_loopw [3] (fun y wr => ∃ i : Nat, i ≤ m ∧ y = .int .i64 (i : Int) ∧ Hid (∀ s ∈ L.take i, s.length ≤ 200) ∧ w = wr) (fun y _ => m - (intOf y).toNat)
    case atStart => exact ⟨0, Nat.zero_le _, rfl, by show ∀ _ _, _; rw [List.take_zero]; simp, rfl⟩
    case round =>
      obtain ⟨i, hi, rfl, hA, rfl⟩ := hrel
      have hlt : i < m := by
        rcases Nat.lt_or_ge i m with h1 | h1
        · exact h1
        · exfalso
          refine HL.out ⟨by have := Hm.out; omega, ?_⟩
          have h2 := hA.out
          rwa [List.take_of_length_le (by have := Hm.out; omega)] at h2
      obtain ⟨s, hs⟩ : ∃ s, L[i]? = some s := ⟨_, List.getElem?_eq_getElem (by have := Hm.out; omega)⟩
      obtain ⟨g, off, rfl, hcell, hsl⟩ := h.at hs
      by_cases h200 : (ofL s).size ≤ 200
      · have hA2 : Hid (∀ x ∈ L.take (i + 1), x.length ≤ 200) := by
          intro x hx
          rw [List.take_add_one, hs] at hx
          rcases List.mem_append.1 hx with h1 | h1
          · exact hA.out x h1
          · rw [List.mem_singleton.1 h1]; exact h200
        clear hs
        go_wp2
        go_roundw
        case rel => exact ⟨i + 1, by omega, by go_num, hA2, by first | trivial | rfl⟩
        case measure => simp [intOf]; omega
      · clear hs
        go_wp2
        go_ret
        exact ⟨rfl, rfl⟩
end Go.Proofs.Ytlinmhmhgnhmeaa
