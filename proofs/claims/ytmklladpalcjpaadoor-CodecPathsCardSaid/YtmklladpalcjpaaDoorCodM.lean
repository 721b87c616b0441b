/-
  Trees in memory: 'RdN w n v': the value v reads in w as the tree n; 'RdK w g off k': the block g holds the trees k from off on, three cells each; 'Bn': a box of three cells. No function of the program is named here.
-/
import Derived.Test.YtmklladpalcjpaaDoorCodP
import Derived.Test.YtmklladpalcjpaaDoorRows
import Derived.Deep.Draws
import Derived.Laws.Rows
import Derived.Laws.CopyOwn
import Derived.Laws.MakeOwn
import Derived.Laws.AppendOwn
import Derived.Lib.Hide
import Derived.Below
import Derived.Deep.AppendLies
namespace Go.Proofs.YtmklladpalcjpaaDoor
open Go.RowKit Cod
set_option linter.unusedVariables false

def ofL (l : List UInt8) : ByteArray := ⟨l.toArray⟩
theorem ofL_data (l : List UInt8) : (ofL l).data.toList = l := rfl
theorem ofL_size (l : List UInt8) : (ofL l).size = l.length := rfl
theorem ofL_eq (s : ByteArray) : ofL s.data.toList = s := rfl
theorem ofL_inj {a b : List UInt8} (h : ofL a = ofL b) : a = b := by
  have := congrArg (fun z : ByteArray => z.data.toList) h
  simpa [ofL] using this
mutual
/-- S: in which blocks the lists lie. -/
def RdM (S : Nat → Prop) (w : World) : Nd → Value → Prop
  | .mk l t k, v => t.length ≤ 140737488351232 ∧ ∃ A c, v = .agg #[.bool l, .string (ofL t), .slice A k.length c] ∧ k.length ≤ c ∧ c ≤ 9223372036854775807 ∧ (0 < k.length → ∃ g off, A = some ⟨g, off, none⟩ ∧ S g ∧ RdK S w g off k)
def RdK (S : Nat → Prop) (w : World) (g : Nat) : Nat → List Nd → Prop
  | off, [] => True
  | off, n :: r => (∃ v0 v1 v2, w.cell? ⟨g, off, none⟩ = some v0 ∧ w.cell? ⟨g, off + 1, none⟩ = some v1 ∧ w.cell? ⟨g, off + 2, none⟩ = some v2 ∧ RdM S w n (.agg #[v0, v1, v2])) ∧ RdK S w g (off + 3) r
end
/-- A slice of trees. -/
def RdMS (S : Nat → Prop) (w : World) (k : List Nd) (v : Value) : Prop := ∃ A c, v = .slice A k.length c ∧ k.length ≤ c ∧ c ≤ 9223372036854775807 ∧ (0 < k.length → ∃ g off, A = some ⟨g, off, none⟩ ∧ S g ∧ RdK S w g off k)
/-- .. wherever they lie. -/
abbrev RdN (w : World) (n : Nd) (v : Value) : Prop := RdM (fun _ => True) w n v
abbrev RdS (w : World) (k : List Nd) (v : Value) : Prop := RdMS (fun _ => True) w k v
theorem cell_below {w w' : World} {a : Addr} {u : Value} (h : w.cell? a = some u) (hb : Below w.heap.size w w') : w'.cell? a = some u := by
  rw [hb.cell (World.block_lt_of_cell? w _ h)]
  exact h
mutual
/-- Where all cells of S stay as they are, and S allows no less, the reading stays. -/
theorem rdM_keep {S S' : Nat → Prop} {w w' : World} (hS : ∀ g, S g → S' g) (hc : ∀ g o u, S g → w.cell? ⟨g, o, none⟩ = some u → w'.cell? ⟨g, o, none⟩ = some u) : ∀ (n : Nd) (v : Value), RdM S w n v → RdM S' w' n v
  | .mk l t k, v, h => by
    rw [RdM] at h ⊢
    obtain ⟨h1, A, c, h2, h3, h4, h5⟩ := h
    refine ⟨h1, A, c, h2, h3, h4, fun h0 => ?_⟩
    obtain ⟨g, off, e, hg, hk⟩ := h5 h0
    exact ⟨g, off, e, hS g hg, rdK_keep hS hc k g hg off hk⟩
theorem rdK_keep {S S' : Nat → Prop} {w w' : World} (hS : ∀ g, S g → S' g) (hc : ∀ g o u, S g → w.cell? ⟨g, o, none⟩ = some u → w'.cell? ⟨g, o, none⟩ = some u) : ∀ (k : List Nd) (g : Nat) (_ : S g) (off : Nat), RdK S w g off k → RdK S' w' g off k
  | [], g, hg, off, h => by rw [RdK]; trivial
  | n :: r, g, hg, off, h => by
    rw [RdK] at h ⊢
    obtain ⟨⟨v0, v1, v2, h0, h1, h2, h3⟩, h4⟩ := h
    exact ⟨⟨v0, v1, v2, hc _ _ _ hg h0, hc _ _ _ hg h1, hc _ _ _ hg h2, rdM_keep hS hc n _ h3⟩, rdK_keep hS hc r g hg _ h4⟩
end
theorem RdM.below {S : Nat → Prop} {w w' : World} {n : Nd} {v : Value} (h : RdM S w n v) (hb : Below w.heap.size w w') : RdM S w' n v := rdM_keep (fun _ h => h) (fun _ _ _ _ hu => cell_below hu hb) n v h
theorem RdM.mono {S S' : Nat → Prop} {w : World} {n : Nd} {v : Value} (h : RdM S w n v) (hS : ∀ g, S g → S' g) : RdM S' w n v := rdM_keep hS (fun _ _ _ _ hu => hu) n v h
theorem RdM.any {S : Nat → Prop} {w : World} {n : Nd} {v : Value} (h : RdM S w n v) : RdN w n v := h.mono (fun _ _ => trivial)
theorem RdM.put {S : Nat → Prop} {w : World} {n : Nd} {v : Value} (h : RdM S w n v) (r i : Nat) (hr : ¬ S r) (u : Value) : RdM S (w.setCell ⟨r, i, none⟩ u) n v :=
  rdM_keep (fun _ h => h) (fun g o x hg hx => (World.cell?_setCell_other _ _ _ _ (fun e => hr (by have := (Addr.mk.inj e).1; rwa [this]))).trans hx) n v h
theorem RdMS.keep {S S' : Nat → Prop} {w w' : World} {k : List Nd} {v : Value} (h : RdMS S w k v) (hS : ∀ g, S g → S' g) (hc : ∀ g o u, S g → w.cell? ⟨g, o, none⟩ = some u → w'.cell? ⟨g, o, none⟩ = some u) : RdMS S' w' k v := by
  obtain ⟨A, c, h2, h3, h4, h5⟩ := h
  refine ⟨A, c, h2, h3, h4, fun h0 => ?_⟩
  obtain ⟨g, off, e, hg, hk⟩ := h5 h0
  exact ⟨g, off, e, hS g hg, rdK_keep hS hc k g hg off hk⟩
theorem RdMS.below {S : Nat → Prop} {w w' : World} {k : List Nd} {v : Value} (h : RdMS S w k v) (hb : Below w.heap.size w w') : RdMS S w' k v := h.keep (fun _ h => h) (fun _ _ _ _ hu => cell_below hu hb)
theorem RdMS.mono {S S' : Nat → Prop} {w : World} {k : List Nd} {v : Value} (h : RdMS S w k v) (hS : ∀ g, S g → S' g) : RdMS S' w k v := h.keep hS (fun _ _ _ _ hu => hu)
theorem rdK_at {S : Nat → Prop} {w : World} {g : Nat} : ∀ (k : List Nd) (off i : Nat) (n : Nd), RdK S w g off k → k[i]? = some n → ∃ v0 v1 v2, w.cell? ⟨g, off + i * 3, none⟩ = some v0 ∧ w.cell? ⟨g, off + i * 3 + 1, none⟩ = some v1 ∧ w.cell? ⟨g, off + i * 3 + 2, none⟩ = some v2 ∧ RdM S w n (.agg #[v0, v1, v2])
  | [], off, i, n, h, hi => by simp at hi
  | x :: r, off, 0, n, h, hi => by
    rw [RdK] at h
    simp only [List.getElem?_cons_zero, Option.some.injEq] at hi
    subst hi
    rw [Nat.zero_mul, Nat.add_zero]
    exact h.1
  | x :: r, off, i + 1, n, h, hi => by
    rw [RdK] at h
    rw [List.getElem?_cons_succ] at hi
    have := rdK_at r (off + 3) i n h.2 hi
    rwa [show off + 3 + i * 3 = off + (i + 1) * 3 by omega] at this
/-- The parts of a tree's value, by name. -/
theorem RdM.named {S : Nat → Prop} {w : World} {l : Bool} {t : List UInt8} {k : List Nd} {v : Value} (h : RdM S w (.mk l t k) v) : ∃ A m c, v = .agg #[.bool l, .string (ofL t), .slice A m c] ∧ Hid (k.length = m) ∧ m ≤ c ∧ c ≤ 9223372036854775807 ∧ t.length ≤ 140737488351232 ∧ RdMS S w k (.slice A m c) := by
  rw [RdM] at h
  obtain ⟨h1, A, c, h2, h3, h4, h5⟩ := h
  exact ⟨A, _, c, h2, rfl, h3, h4, h1, A, c, rfl, h3, h4, h5⟩
theorem RdM.of_parts {S : Nat → Prop} {w : World} {l : Bool} {t : List UInt8} {k : List Nd} {A : Option Addr} {m c : Nat} (h : RdMS S w k (.slice A m c)) (ht : t.length ≤ 140737488351232) : RdM S w (.mk l t k) (.agg #[.bool l, .string (ofL t), .slice A m c]) := by
  obtain ⟨A', c', e, h3, h4, h5⟩ := h
  simp only [Value.slice.injEq] at e
  obtain ⟨rfl, rfl, rfl⟩ := e
  rw [RdM]
  exact ⟨ht, A, c, rfl, h3, h4, h5⟩
theorem RdMS.at {S : Nat → Prop} {w : World} {k : List Nd} {A : Option Addr} {m c i : Nat} {n : Nd} (h : RdMS S w k (.slice A m c)) (hi : k[i]? = some n) : ∃ g off v0 v1 v2, A = some ⟨g, off, none⟩ ∧ w.cell? ⟨g, off + i * 3, none⟩ = some v0 ∧ w.cell? ⟨g, off + i * 3 + 1, none⟩ = some v1 ∧ w.cell? ⟨g, off + i * 3 + 2, none⟩ = some v2 ∧ RdM S w n (.agg #[v0, v1, v2]) := by
  obtain ⟨A', c', e, h3, h4, h5⟩ := h
  simp only [Value.slice.injEq] at e
  obtain ⟨rfl, rfl, rfl⟩ := e
  have hlt := (List.getElem?_eq_some_iff.1 hi).1
  obtain ⟨g, off, e, hg, hk⟩ := h5 (by omega)
  obtain ⟨v0, v1, v2, a, b, c, d⟩ := rdK_at k off i n hk hi
  exact ⟨g, off, v0, v1, v2, e, a, b, c, d⟩
theorem RdMS.nil (S : Nat → Prop) (w : World) : RdMS S w [] (.slice none 0 0) := ⟨none, 0, rfl, Nat.le_refl _, by omega, fun h => by simp at h⟩
/-- The zero value. -/
def zeroN : Nd := .mk false [] []
theorem RdM.zero (S : Nat → Prop) (w : World) : RdM S w zeroN (.agg #[.bool false, .string ⟨#[]⟩, .slice none 0 0]) := by
  unfold zeroN
  exact RdM.of_parts (RdMS.nil S w) (by simp)
/-- The cells of trees, one after the other. -/
def RdC (S : Nat → Prop) (w : World) : List Nd → List Value → Prop
  | [], [] => True
  | n :: r, v0 :: v1 :: v2 :: C => RdM S w n (.agg #[v0, v1, v2]) ∧ RdC S w r C
  | _, _ => False
theorem rdC_len {S : Nat → Prop} {w : World} : ∀ (k : List Nd) (C : List Value), RdC S w k C → C.length = k.length * 3
  | [], [], _ => rfl
  | [], _ :: _, h => by simp [RdC] at h
  | n :: r, [], h => by simp [RdC] at h
  | n :: r, [_], h => by simp [RdC] at h
  | n :: r, [_, _], h => by simp [RdC] at h
  | n :: r, v0 :: v1 :: v2 :: C, h => by
    rw [RdC] at h
    have := rdC_len r C h.2
    simp only [List.length_cons]
    omega
theorem rdC_snoc {S : Nat → Prop} {w : World} {n : Nd} {a b c : Value} (hn : RdM S w n (.agg #[a, b, c])) : ∀ (k : List Nd) (C : List Value), RdC S w k C → RdC S w (k ++ [n]) (C ++ [a, b, c])
  | [], [], _ => by rw [List.nil_append, List.nil_append, RdC]; exact ⟨hn, by rw [RdC]; trivial⟩
  | [], _ :: _, h => by simp [RdC] at h
  | n :: r, [], h => by simp [RdC] at h
  | n :: r, [_], h => by simp [RdC] at h
  | n :: r, [_, _], h => by simp [RdC] at h
  | n :: r, v0 :: v1 :: v2 :: C, h => by
    rw [RdC] at h
    rw [List.cons_append, List.cons_append, List.cons_append, List.cons_append, RdC]
    exact ⟨h.1, rdC_snoc hn r C h.2⟩
theorem rdC_keep {S S' : Nat → Prop} {w w' : World} (hc : ∀ n v, RdM S w n v → RdM S' w' n v) : ∀ (k : List Nd) (C : List Value), RdC S w k C → RdC S' w' k C
  | [], [], _ => by rw [RdC]; trivial
  | [], _ :: _, h => by simp [RdC] at h
  | n :: r, [], h => by simp [RdC] at h
  | n :: r, [_], h => by simp [RdC] at h
  | n :: r, [_, _], h => by simp [RdC] at h
  | n :: r, v0 :: v1 :: v2 :: C, h => by
    rw [RdC] at h ⊢
    exact ⟨hc _ _ h.1, rdC_keep hc r C h.2⟩
theorem rdK_of_cells {S : Nat → Prop} {w : World} {g : Nat} : ∀ (k : List Nd) (C : List Value) (off : Nat), RdC S w k C → (∀ j u, C[j]? = some u → w.cell? ⟨g, off + j, none⟩ = some u) → RdK S w g off k
  | [], _, off, _, _ => by rw [RdK]; trivial
  | n :: r, [], off, h, _ => by simp [RdC] at h
  | n :: r, [_], off, h, _ => by simp [RdC] at h
  | n :: r, [_, _], off, h, _ => by simp [RdC] at h
  | n :: r, v0 :: v1 :: v2 :: C, off, h, hc => by
    rw [RdC] at h
    rw [RdK]
    refine ⟨⟨v0, v1, v2, hc 0 v0 rfl, hc 1 v1 rfl, hc 2 v2 rfl, h.1⟩, rdK_of_cells r C (off + 3) h.2 fun j u hu => ?_⟩
    rw [show off + 3 + j = off + (j + 3) by omega]
    exact hc (j + 3) u hu
/-- A row of the call's own reads as the trees that its cells read as. -/
theorem RdMS.of_row {S : Nat → Prop} {w : World} {base : Nat} {e : TypeId} {v : Value} {k : List Nd} {C : List Value} (h : w.ownsRow base e 3 v k.length C) (hC : RdC S w k C) (hS : ∀ g, base ≤ g → S g) : RdMS S w k v := by
  rcases h.2 with ⟨rfl, h2⟩ | ⟨g, cap, cur, rfl, hg, hh, h1, h2, hs, ht⟩
  · have h0 : k = [] := by simpa using h2
    subst h0
    exact RdMS.nil S w
  · refine ⟨_, cap, rfl, h1, by unfold maxLen at h2; omega, fun _ => ⟨g, 0, rfl, hS g hg, rdK_of_cells k C 0 hC fun j u hu => ?_⟩⟩
    rw [Nat.zero_add, cell_of_row w g j _ e (0, 0) hh, ← Array.getElem?_toList]
    have hj := (List.getElem?_eq_some_iff.1 hu).1
    have h3 : (cur.toList.take (k.length * 3))[j]? = C[j]? := by rw [ht]
    have hl := rdC_len k C hC
    rw [List.getElem?_take_of_lt (by omega), hu] at h3
    exact h3
mutual
/-- The blocks of a list that is read are there. -/
theorem rdM_in {S : Nat → Prop} {w : World} : ∀ (n : Nd) (v : Value), RdM S w n v → RdM (fun g => S g ∧ g < w.heap.size) w n v
  | .mk l t k, v, h => by
    rw [RdM] at h ⊢
    obtain ⟨h1, A, c, h2, h3, h4, h5⟩ := h
    refine ⟨h1, A, c, h2, h3, h4, fun h0 => ?_⟩
    obtain ⟨g, off, e, hg, hk⟩ := h5 h0
    have hlt : g < w.heap.size := by
      cases k with
      | nil => simp at h0
      | cons n r =>
        rw [RdK] at hk
        obtain ⟨⟨v0, _, _, hc, _⟩, _⟩ := hk
        exact World.block_lt_of_cell? w _ hc
    exact ⟨g, off, e, ⟨hg, hlt⟩, rdK_in k g off hk⟩
theorem rdK_in {S : Nat → Prop} {w : World} : ∀ (k : List Nd) (g off : Nat), RdK S w g off k → RdK (fun g => S g ∧ g < w.heap.size) w g off k
  | [], g, off, h => by rw [RdK]; trivial
  | n :: r, g, off, h => by
    rw [RdK] at h ⊢
    obtain ⟨⟨v0, v1, v2, h0, h1, h2, h3⟩, h4⟩ := h
    exact ⟨⟨v0, v1, v2, h0, h1, h2, rdM_in n _ h3⟩, rdK_in r g _ h4⟩
end
theorem ownsRow_below {w w' : World} {base : Nat} {e : TypeId} {size : Nat} {v : Value} {n : Nat} {xs : List Value} (h : w.ownsRow base e size v n xs) (hb : Below w.heap.size w w') : w'.ownsRow base e size v n xs := by
  refine ⟨h.1, h.2.imp id ?_⟩
  rintro ⟨g, cap, cur, h1, h2, h3, h4⟩
  have hlt : g < w.heap.size := by
    rcases Nat.lt_or_ge g w.heap.size with hlt | hge
    · exact hlt
    · rw [Array.getElem?_eq_none hge] at h3; cases h3
  exact ⟨g, cap, cur, h1, h2, by rw [hb.block g hlt]; exact h3, h4⟩
def SB (B : Nat) (v : Value) (K g : Nat) : Prop := B ≤ g ∧ g < K ∧ v.ownBlock ≠ some g
/-- Trees appended so far: a row of the call's own, whose cells read as the trees, in other blocks. -/
def Kids (B : Nat) (w : World) (v : Value) (acc : List Nd) : Prop := ∃ C, w.ownsRow B 25 3 v acc.length C ∧ RdC (SB B v w.heap.size) w acc C
theorem Kids.start (B : Nat) (w : World) : Kids B w (.slice none 0 0) [] := ⟨[], World.ownsRow_nil _ _ _ 3, by rw [RdC]; trivial⟩
theorem Kids.below {B : Nat} {w w' : World} {v : Value} {acc : List Nd} (h : Kids B w v acc) (hb : Below w.heap.size w w') : Kids B w' v acc := by
  obtain ⟨C, h1, h2⟩ := h
  exact ⟨C, ownsRow_below h1 hb, rdC_keep (fun n u hu => (hu.below hb).mono fun g hg => ⟨hg.1, Nat.lt_of_lt_of_le hg.2.1 hb.size, hg.2.2⟩) acc C h2⟩
theorem Kids.reads {B : Nat} {w : World} {v : Value} {acc : List Nd} (h : Kids B w v acc) : RdMS (fun g => B ≤ g) w acc v := by
  obtain ⟨C, h1, h2⟩ := h
  exact RdMS.of_row h1 (rdC_keep (fun n u hu => hu.mono fun g hg => hg.1) acc C h2) (fun g hg => hg)
theorem Kids.put {B : Nat} {w : World} {v : Value} {acc : List Nd} (h : Kids B w v acc) (r i : Nat) (hr : r < B) (u : Value) : Kids B (w.setCell ⟨r, i, none⟩ u) v acc := by
  obtain ⟨C, h1, h2⟩ := h
  have hs : (w.setCell ⟨r, i, none⟩ u).heap.size = w.heap.size := by simp
  refine ⟨C, ownsRow_setCell_below h1 hr u, ?_⟩
  rw [hs]
  exact rdC_keep (fun n x hx => hx.put r i (fun hS => by have := hS.1; omega) u) acc C h2
/-- One more. -/
theorem Kids.append {B H g cap : Nat} {w w' : World} {v : Value} {acc : List Nd} {n : Nd} {a b c : Value} {C : List Value} (h2 : RdC (SB B v w.heap.size) w acc C) (hn : RdM (SB B v w.heap.size) w n (.agg #[a, b, c]))
    (hrow : w'.ownsRow B 25 3 (.slice (some ⟨g, 0, none⟩) (acc.length + 1) cap) (acc.length + 1) (C ++ [a, b, c])) (hg : w.grownBy w' v.ownBlock) (hat : v.ownBlock = some g ∨ g = H) (hH : w.heap.size = H) : Kids B w' (.slice (some ⟨g, 0, none⟩) (acc.length + 1) cap) (acc ++ [n]) := by
  have up : ∀ n u, RdM (SB B v w.heap.size) w n u → RdM (SB B (.slice (some ⟨g, 0, none⟩) (acc.length + 1) cap) w'.heap.size) w' n u := fun n u hu =>
    rdM_keep (fun k hk => ⟨hk.1, Nat.lt_of_lt_of_le hk.2.1 hg.size, fun e => by
      have e' : g = k := by simpa [Value.ownBlock] using e
      rcases hat with h | h
      · exact hk.2.2 (by rw [h, e'])
      · have := hk.2.1
        omega⟩) (fun k o x hk hx => hg.cell hx (fun e => hk.2.2 e.symm)) n u hu
  refine ⟨C ++ [a, b, c], by simpa using hrow, rdC_snoc (up _ _ hn) acc C (rdC_keep up acc C h2)⟩
theorem Kids.new {B : Nat} {w w' : World} {v : Value} {acc : List Nd} {n : Nd} {u : Value} (h : Kids B w v acc) (hB : B ≤ w.heap.size) (hn : RdM (fun g => w.heap.size ≤ g) w' n u) : RdM (SB B v w'.heap.size) w' n u := by
  obtain ⟨C, h1, _⟩ := h
  refine (rdM_in n u hn).mono fun g hg => ⟨Nat.le_trans hB hg.1, hg.2, fun e => ?_⟩
  have h2 := (h1.lt g e).2
  have h3 := hg.1
  omega
theorem RdM.wider {B : Nat} {v : Value} {w w' : World} {n : Nd} {u : Value} (h : RdM (SB B v w.heap.size) w n u) (hb : Below w.heap.size w w') : RdM (SB B v w'.heap.size) w' n u := (h.below hb).mono fun g hg => ⟨hg.1, Nat.lt_of_lt_of_le hg.2.1 hb.size, hg.2.2⟩
theorem lit_cells3 (W : World) (a b c : Value) (e : TypeId) (blk : Nat) (h : blk = W.heap.size) : ∀ j u, [a, b, c][j]? = some u → (W.alloc (.cells #[a, b, c] e)).cell? ((⟨blk, 0, none⟩ : Addr).add j) = some u := by
  subst h
  intro j u hu
  have hadd : (⟨W.heap.size, 0, none⟩ : Addr).add j = ⟨W.heap.size, j, none⟩ := by unfold Addr.add; split <;> simp_all
  have hh : (W.alloc (.cells #[a, b, c] e)).heap[W.heap.size]? = some (.cells #[a, b, c] e (0, 0)) := by simp only [World.alloc, Array.getElem?_push_size]
  rw [hadd, cell_of_row _ _ _ _ e (0, 0) hh, ← Array.getElem?_toList]
  exact hu
theorem info_node : (Tryd.prog.info? 25).map (fun i => (i.zero, i.size, i.bytes)) = some (some (.agg #[.bool false, .string ⟨#[]⟩, .slice none 0 0]), 3, 48) := by kernel_rfl
/-- A box of three cells. -/
def Bn (w : World) (g : Nat) (v0 v1 v2 : Value) : Prop := w.cell? ⟨g, 0, none⟩ = some v0 ∧ w.cell? ⟨g, 1, none⟩ = some v1 ∧ w.cell? ⟨g, 2, none⟩ = some v2 ∧ w.frozen? ⟨g, 0, none⟩ = false ∧ w.frozen? ⟨g, 1, none⟩ = false ∧ w.frozen? ⟨g, 2, none⟩ = false
theorem Bn.lt {w : World} {g : Nat} {v0 v1 v2 : Value} (h : Bn w g v0 v1 v2) : g < w.heap.size := World.block_lt_of_cell? w _ h.1
theorem Bn.below {w w' : World} {g : Nat} {v0 v1 v2 : Value} (h : Bn w g v0 v1 v2) (hb : Below w.heap.size w w') : Bn w' g v0 v1 v2 :=
  ⟨cell_below h.1 hb, cell_below h.2.1 hb, cell_below h.2.2.1 hb, (hb.frozen (p := ⟨g, 0, none⟩) h.lt).trans h.2.2.2.1, (hb.frozen (p := ⟨g, 1, none⟩) h.lt).trans h.2.2.2.2.1, (hb.frozen (p := ⟨g, 2, none⟩) h.lt).trans h.2.2.2.2.2⟩
theorem Bn.new (w : World) (v0 v1 v2 : Value) (e : TypeId) : Bn (w.alloc (.cells #[v0, v1, v2] e)) w.heap.size v0 v1 v2 := ⟨by simp, by simp, by simp, by simp, by simp, by simp⟩
theorem Bn.ret {w : World} {g r : Nat} {v0 v1 v2 : Value} (h : Bn w g v0 v1 v2) (hne : g ≠ r) (a b c : Value) : Bn (((w.setCell ⟨r, 0, none⟩ a).setCell ⟨r, 1, none⟩ b).setCell ⟨r, 2, none⟩ c) g v0 v1 v2 := by
  have e : ∀ i j : Nat, (⟨r, i, none⟩ : Addr) ≠ ⟨g, j, none⟩ := fun i j h => hne (Addr.mk.inj h).1.symm
  have c3 : ∀ j u, w.cell? ⟨g, j, none⟩ = some u → (((w.setCell ⟨r, 0, none⟩ a).setCell ⟨r, 1, none⟩ b).setCell ⟨r, 2, none⟩ c).cell? ⟨g, j, none⟩ = some u := fun j u hu =>
    (World.cell?_setCell_other _ _ _ _ (e _ _)).trans ((World.cell?_setCell_other _ _ _ _ (e _ _)).trans ((World.cell?_setCell_other _ _ _ _ (e _ _)).trans hu))
  exact ⟨c3 _ _ h.1, c3 _ _ h.2.1, c3 _ _ h.2.2.1, by simpa using h.2.2.2.1, by simpa using h.2.2.2.2.1, by simpa using h.2.2.2.2.2⟩
theorem Bn.put {w : World} {g : Nat} {v0 v1 v2 : Value} (h : Bn w g v0 v1 v2) (a b c : Value) : Bn (((w.setCell ⟨g, 0, none⟩ a).setCell ⟨g, 1, none⟩ b).setCell ⟨g, 2, none⟩ c) g a b c := by
  have e : ∀ i j : Nat, i ≠ j → (⟨g, i, none⟩ : Addr) ≠ ⟨g, j, none⟩ := fun i j h e => h (Addr.mk.inj e).2.1
  refine ⟨?_, ?_, ?_, by simpa using h.2.2.2.1, by simpa using h.2.2.2.2.1, by simpa using h.2.2.2.2.2⟩
  · exact (World.cell?_setCell_other _ _ _ _ (e _ _ (by omega))).trans ((World.cell?_setCell_other _ _ _ _ (e _ _ (by omega))).trans (World.cell?_setCell_same _ _ _ h.1))
  · exact (World.cell?_setCell_other _ _ _ _ (e _ _ (by omega))).trans (World.cell?_setCell_same (u := v1) _ _ _ ((World.cell?_setCell_other _ _ _ _ (e _ _ (by omega))).trans h.2.1))
  · exact World.cell?_setCell_same (u := v2) _ _ _ ((World.cell?_setCell_other _ _ _ _ (e _ _ (by omega))).trans ((World.cell?_setCell_other _ _ _ _ (e _ _ (by omega))).trans h.2.2.1))
theorem Bn.drew {w : World} {g : Nat} {v0 v1 v2 : Value} (h : Bn w g v0 v1 v2) : Bn w.drew g v0 v1 v2 := h
theorem Bn.drewN {w : World} {g : Nat} {v0 v1 v2 : Value} (h : Bn w g v0 v1 v2) (k : Nat) : Bn (w.drewN k) g v0 v1 v2 := h
theorem up_1 (w : World) (o : Obj) : Below w.heap.size w (w.alloc o) := (Below.refl _ w).alloc (Nat.le_refl _) o
theorem up_2 (w : World) (o p : Obj) : Below w.heap.size w ((w.alloc o).alloc p) := (up_1 w o).alloc (by simp) p
theorem up_3 (w : World) (o p q : Obj) : Below w.heap.size w (((w.alloc o).alloc p).alloc q) := (up_2 w o p).alloc (by simp; omega) q
theorem up_put {w0 w : World} {B g : Nat} (h : Below B w0 w) (hg : B ≤ g) (a b c : Value) : Below B w0 (((w.setCell ⟨g, 0, none⟩ a).setCell ⟨g, 1, none⟩ b).setCell ⟨g, 2, none⟩ c) := ((h.setCell (p := ⟨g, 0, none⟩) hg a).setCell (p := ⟨g, 1, none⟩) hg b).setCell (p := ⟨g, 2, none⟩) hg c
theorem up_drewN {B : Nat} {a w : World} (h : Below B a w) (n : Nat) : Below B a (w.drewN n) := ⟨h.os, h.tape, h.output, h.size, h.block⟩
theorem Bn.up {w : World} {g : Nat} {v0 v1 v2 : Value} (h : Bn w g v0 v1 v2) (o : Obj) : Bn (w.alloc o) g v0 v1 v2 := h.below (up_1 w o)
theorem Bn.belowB {w w' : World} {B g : Nat} {v0 v1 v2 : Value} (h : Bn w g v0 v1 v2) (hb : Below B w w') (hg : g < B) : Bn w' g v0 v1 v2 :=
  ⟨(hb.cell (p := ⟨g, 0, none⟩) hg).trans h.1, (hb.cell (p := ⟨g, 1, none⟩) hg).trans h.2.1, (hb.cell (p := ⟨g, 2, none⟩) hg).trans h.2.2.1, (hb.frozen (p := ⟨g, 0, none⟩) hg).trans h.2.2.2.1, (hb.frozen (p := ⟨g, 1, none⟩) hg).trans h.2.2.2.2.1, (hb.frozen (p := ⟨g, 2, none⟩) hg).trans h.2.2.2.2.2⟩
/-- The third cell written. -/
theorem Bn.set2 {w : World} {g : Nat} {v0 v1 v2 : Value} (h : Bn w g v0 v1 v2) (c : Value) : Bn (w.setCell ⟨g, 2, none⟩ c) g v0 v1 c :=
  ⟨(World.cell?_setCell_other _ _ _ _ (by simp)).trans h.1, (World.cell?_setCell_other _ _ _ _ (by simp)).trans h.2.1, World.cell?_setCell_same _ _ _ h.2.2.1, by simpa using h.2.2.2.1, by simpa using h.2.2.2.2.1, by simpa using h.2.2.2.2.2⟩
theorem Bn.set2o {w : World} {g r : Nat} {v0 v1 v2 : Value} (h : Bn w g v0 v1 v2) (hne : g ≠ r) (c : Value) : Bn (w.setCell ⟨r, 2, none⟩ c) g v0 v1 v2 := by
  have e : ∀ i j : Nat, (⟨r, i, none⟩ : Addr) ≠ ⟨g, j, none⟩ := fun i j h => hne (Addr.mk.inj h).1.symm
  exact ⟨(World.cell?_setCell_other _ _ _ _ (e _ _)).trans h.1, (World.cell?_setCell_other _ _ _ _ (e _ _)).trans h.2.1, (World.cell?_setCell_other _ _ _ _ (e _ _)).trans h.2.2.1, by simpa using h.2.2.2.1, by simpa using h.2.2.2.2.1, by simpa using h.2.2.2.2.2⟩
theorem bn3 {w : World} {g : Nat} {v0 v1 v2 : Value} (h : Bn w g v0 v1 v2) : w.cell? ⟨g, 0, none⟩ = some v0 ∧ w.cell? ⟨g, 1, none⟩ = some v1 ∧ w.cell? ⟨g, 2, none⟩ = some v2 := ⟨h.1, h.2.1, h.2.2.1⟩
/-- From W0 on nothing below B has changed, and there are at least B blocks. -/
def Bw (B : Nat) (W0 W : World) : Prop := Below B W0 W ∧ B ≤ W.heap.size
theorem Bw.up {B : Nat} {W0 W w1 : World} (h : Bw B W0 W) (bb : Below W.heap.size W w1) : Bw B W0 w1 := ⟨h.1.trans (bb.mono h.2), Nat.le_trans h.2 bb.size⟩
theorem Bw.alloc {B : Nat} {W0 W : World} (h : Bw B W0 W) (o : Obj) : Bw B W0 (W.alloc o) := h.up (up_1 W o)
theorem Bw.drew {B : Nat} {W0 W : World} (h : Bw B W0 W) : Bw B W0 W.drew := ⟨h.1.drew, h.2⟩
theorem Bw.set {B : Nat} {W0 W : World} (h : Bw B W0 W) (a : Addr) (ha : B ≤ a.block) (u : Value) : Bw B W0 (W.setCell a u) := ⟨h.1.setCell ha u, by simpa using h.2⟩
theorem Bn.bw {B : Nat} {w w' : World} {g : Nat} {v0 v1 v2 : Value} (h : Bn w g v0 v1 v2) (hb : Bw B w w') (hg : g < B) : Bn w' g v0 v1 v2 := h.belowB hb.1 hg
theorem RdM.bw {B : Nat} {w w' : World} {n : Nd} {v : Value} (h : RdM (fun g => g < B) w n v) (hb : Bw B w w') : RdM (fun g => g < B) w' n v := rdM_keep (fun _ h => h) (fun g o u hg hu => (hb.1.cell (p := ⟨g, o, none⟩) hg).trans hu) n v h
end Go.Proofs.YtmklladpalcjpaaDoor
