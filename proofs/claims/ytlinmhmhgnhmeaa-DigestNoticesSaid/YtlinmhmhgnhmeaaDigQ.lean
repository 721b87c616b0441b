/-
  A text with one byte replaced: what its digests and the chains that contain it say.
-/
import Derived.Test.YtlinmhmhgnhmeaaDigG
namespace Go.Proofs.Ytlinmhmhgnhmeaa
open Go.RowKit Dig
set_option linter.unusedVariables false
theorem extract_L (s : ByteArray) (a n : Nat) : s.extract a (a + n) = ofL ((s.data.toList.drop a).take n) := by
  have h : (s.extract a (a + n)).data.toList = (s.data.toList.drop a).take n := by
    rw [ByteArray.data_extract, Array.toList_extract]
    simp [List.extract]
  rw [← h, ofL_eq]
theorem extract_0 (s : ByteArray) (n : Nat) : (s.extract 0 n).data.toList = s.data.toList.take n := by
  have h := extract_L s 0 n
  rw [Nat.zero_add] at h
  rw [h, ofL_data, List.drop_zero]
theorem extract_rest (s : ByteArray) (n : Nat) (hn : n ≤ s.size) : (s.extract n s.size).data.toList = s.data.toList.drop n := by
  have h := extract_L s n (s.size - n)
  rw [show n + (s.size - n) = s.size by omega] at h
  rw [h, ofL_data, List.take_of_length_le]
  rw [List.length_drop, data_len]
  omega
/-- The text with its byte i replaced. -/
def repl (s : List UInt8) (i : Nat) (d : UInt8) : List UInt8 := s.take i ++ d :: s.drop (i + 1)
theorem repl_self (s : List UInt8) (i : Nat) (c : UInt8) (h : s[i]? = some c) : repl s i c = s := by
  obtain ⟨hl, e⟩ := List.getElem?_eq_some_iff.1 h
  unfold repl
  rw [← e, List.getElem_cons_drop, List.take_append_drop]
theorem repl_inj {s : List UInt8} {i : Nat} {c d : UInt8} (h : repl s i c = repl s i d) : c = d := by
  have h1 := List.append_cancel_left h
  exact (List.cons.inj h1).1
theorem repl_len (s : List UInt8) (i : Nat) (d : UInt8) (h : i < s.length) : (repl s i d).length = s.length := by
  unfold repl
  rw [List.length_append, List.length_cons, List.length_take, List.length_drop]
  omega
theorem repl_text (s : ByteArray) (i : Nat) (d : UInt8) (h : i < s.size) : s.extract 0 i ++ ⟨#[d]⟩ ++ s.extract (i + 1) s.size = ofL (repl s.data.toList i d) := by
  have e : (s.extract 0 i ++ ⟨#[d]⟩ ++ s.extract (i + 1) s.size).data.toList = repl s.data.toList i d := by
    rw [data_app, data_app, extract_0, extract_rest _ _ (by omega), List.append_assoc]
    rfl
  rw [← e, ofL_eq]
theorem differ_dg {s : List UInt8} {i : Nat} {c d : UInt8} (h : s[i]? = some c) (hd : c ≠ d) : dg s ≠ dg (repl s i d) := fun e => by
  rw [← repl_self s i c h] at e
  refine hd (dg_byte (s.take i) (s.drop (i + 1)) c d ?_)
  rw [repl_self s i c h] at e
  unfold repl at e
  rw [← e]
  have := repl_self s i c h
  unfold repl at this
  rw [this]
theorem differ_ch {s : List UInt8} {i : Nat} {c d : UInt8} (a : Nat) (h : s[i]? = some c) (hd : c ≠ d) : ch a s ≠ ch a (repl s i d) := fun e =>
  differ_dg h hd (ch_text (repl_len s i d (List.getElem?_eq_some_iff.1 h).1).symm e)
theorem differ_ch2 {s : List UInt8} {i : Nat} {c d : UInt8} (a : Nat) (y : List UInt8) (h : s[i]? = some c) (hd : c ≠ d) : ch (ch a s) y ≠ ch (ch a (repl s i d)) y := fun e =>
  differ_ch a h hd (ch_inj (ch_lt _ _) (ch_lt _ _) e)
theorem lk3 (x s y : List UInt8) : lk 0 [x, s, y] = [ch 0 x, ch (ch 0 x) s, ch (ch (ch 0 x) s) y] := rfl
theorem eq_as {a b : Nat} {c d : UInt8} (h1 : c = d → a = b) (h2 : c ≠ d → a ≠ b) : ((a : Int) == (b : Int)) = decide (c = d) := by
  by_cases h : c = d
  · rw [decide_eq_true h, h1 h]
    exact beq_self_eq_true _
  · rw [decide_eq_false h]
    exact beq_eq_false_iff_ne.2 (fun e => h2 h (by omega))
theorem eq_text {s : ByteArray} {i : Nat} {c d : UInt8} (h : s.data.toList[i]? = some c) : ((ofL (repl s.data.toList i d)).toList == s.toList) = decide (c = d) := by
  rw [ByteArray.toList_eq, ByteArray.toList_eq, ofL_data]
  by_cases e : c = d
  · subst e
    rw [repl_self _ _ _ h, decide_eq_true rfl]
    exact beq_self_eq_true _
  · rw [decide_eq_false e]
    refine beq_eq_false_iff_ne.2 (fun k => e ?_)
    exact (repl_inj (k.trans (repl_self _ _ _ h).symm)).symm
theorem RdU.three {w : World} {x y z : Nat} {A : Option Addr} {m c : Nat} (h : RdU w [x, y, z] (.slice A m c)) : ∃ g off, A = some ⟨g, off, none⟩ ∧ m = 3 ∧ 3 ≤ c ∧ w.cell? ⟨g, off, none⟩ = some (.int .u64 (x : Int)) ∧ w.cell? ⟨g, off + 1, none⟩ = some (.int .u64 (y : Int)) ∧ w.cell? ⟨g, off + 2, none⟩ = some (.int .u64 (z : Int)) := by
  obtain ⟨A', c', e, h2, h3, h5⟩ := h
  simp only [Value.slice.injEq] at e
  obtain ⟨rfl, rfl, rfl⟩ := e
  obtain ⟨g, off, e, hc⟩ := h5 (by simp)
  exact ⟨g, off, e, rfl, h2, hc 0 x rfl, hc 1 y rfl, hc 2 z rfl⟩
theorem three_le {S : List UInt8} {n : Nat} (h : S.length ≤ n) (h1 : 1 ≤ n) : ∀ x ∈ [[120], S, [121]], x.length ≤ n := by
  intro x hx
  simp only [List.mem_cons, List.not_mem_nil, or_false] at hx
  rcases hx with rfl | rfl | rfl
  · exact h1
  · exact h
  · exact h1
end Go.Proofs.Ytlinmhmhgnhmeaa
