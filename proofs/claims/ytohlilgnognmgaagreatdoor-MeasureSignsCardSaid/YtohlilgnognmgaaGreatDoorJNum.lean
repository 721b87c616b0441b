import Derived.WalkKit
import Derived.Deep.Draws
import Derived.Laws.Rows
import Derived.Laws.CopyOwn
import Derived.Test.YtohlilgnognmgaaGreatDoorRows
import Derived.WalkSpells
import Derived.Lib.Hide
import Derived.BigQuiet
import Derived.Deep.QuietTactic
/-
  Plain arithmetic of numbers in limbs of 32 bits: no program is named here. 'val' is the value of a list of limbs, 'Lim' says that each limb is below 2^32, 'Nrm' that the last one is not 0.
-/
namespace Go.Proofs.YtohlilgnognmgaaGreatDoor
namespace Num

/-- One more than the greatest limb. -/
def K : Nat := 4294967296
theorem K_eq : K = 4294967296 := rfl
theorem K_pos : 0 < K := by decide

def val : List Nat → Nat
  | [] => 0
  | x :: xs => x + K * val xs
def Lim (l : List Nat) : Prop := ∀ x ∈ l, x < K
def Nrm (l : List Nat) : Prop := l.getLast? ≠ some 0

theorem val_nil : val [] = 0 := rfl
theorem val_cons (x : Nat) (l : List Nat) : val (x :: l) = x + K * val l := rfl
theorem val_append (a b : List Nat) : val (a ++ b) = val a + K ^ a.length * val b := by
  induction a with
  | nil => simp [val]
  | cons x a ih => simp only [List.cons_append, val, ih, List.length_cons, Nat.pow_succ]; rw [Nat.mul_add, ← Nat.mul_assoc, Nat.mul_comm K (K ^ a.length)]; omega
theorem val_one (x : Nat) : val [x] = x := by simp [val]
theorem val_snoc (a : List Nat) (x : Nat) : val (a ++ [x]) = val a + K ^ a.length * x := by rw [val_append, val_one]
theorem val_split (l : List Nat) (k : Nat) (hk : k ≤ l.length) : val l = val (l.take k) + K ^ k * val (l.drop k) := by
  have h := val_append (l.take k) (l.drop k)
  rw [List.take_append_drop, List.length_take, Nat.min_eq_left hk] at h
  exact h
theorem val_zeros (l : List Nat) (h : ∀ x ∈ l, x = 0) : val l = 0 := by
  induction l with
  | nil => rfl
  | cons x l ih => rw [val, h x (by simp), ih (fun y hy => h y (by simp [hy]))]; simp
theorem val_replicate (n : Nat) : val (List.replicate n 0) = 0 := val_zeros _ (fun _ hx => (List.mem_replicate.1 hx).2)
theorem Lim.nil : Lim [] := fun _ h => by simp at h
theorem Lim.cons {x : Nat} {l : List Nat} (hx : x < K) (h : Lim l) : Lim (x :: l) := fun y hy => by
  rcases List.mem_cons.1 hy with rfl | hy
  · exact hx
  · exact h y hy
theorem Lim.append {a b : List Nat} (ha : Lim a) (hb : Lim b) : Lim (a ++ b) := fun x hx => by
  rcases List.mem_append.1 hx with h | h
  · exact ha x h
  · exact hb x h
theorem Lim.take {l : List Nat} (h : Lim l) (k : Nat) : Lim (l.take k) := fun x hx => h x (List.mem_of_mem_take hx)
theorem Lim.drop {l : List Nat} (h : Lim l) (k : Nat) : Lim (l.drop k) := fun x hx => h x (List.mem_of_mem_drop hx)
theorem Lim.set {l : List Nat} (h : Lim l) (k x : Nat) (hx : x < K) : Lim (l.set k x) := fun y hy => by
  rcases List.mem_or_eq_of_mem_set hy with hy | rfl
  · exact h y hy
  · exact hx
theorem Lim.at {l : List Nat} (h : Lim l) {k x : Nat} (hx : l[k]? = some x) : x < K := h x (List.mem_of_getElem? hx)
theorem Lim.replicate (n : Nat) : Lim (List.replicate n 0) := fun x hx => by rw [(List.mem_replicate.1 hx).2]; exact K_pos
theorem val_lt (l : List Nat) (h : Lim l) : val l < K ^ l.length := by
  induction l with
  | nil => simp [val]
  | cons x l ih =>
    have hx := h x (by simp)
    have hl := ih (fun y hy => h y (by simp [hy]))
    rw [val, List.length_cons, Nat.pow_succ, Nat.mul_comm]
    have h1 : val l + 1 ≤ K ^ l.length := hl
    have h2 := Nat.mul_le_mul_right K h1
    rw [Nat.add_mul, Nat.one_mul] at h2
    omega
theorem pow_pos' (k : Nat) : 0 < K ^ k := Nat.pow_pos K_pos
theorem Nrm.ge {l : List Nat} (h : Nrm l) (hl : l ≠ []) : K ^ (l.length - 1) ≤ val l := by
  obtain ⟨a, x, rfl⟩ : ∃ a x, l = a ++ [x] := ⟨l.dropLast, l.getLast hl, (List.dropLast_concat_getLast hl).symm⟩
  have hx : x ≠ 0 := fun e => h (by rw [List.getLast?_append]; simp [e])
  rw [val_snoc]
  have : K ^ a.length * 1 ≤ K ^ a.length * x := Nat.mul_le_mul_left _ (by omega)
  simp only [List.length_append, List.length_cons, List.length_nil, Nat.zero_add, Nat.add_sub_cancel]
  omega
theorem Nrm.lt_of_length {a b : List Nat} (ha : Lim a) (hb : Nrm b) (h : a.length < b.length) : val a < val b := by
  have h1 := val_lt a ha
  have h2 := hb.ge (by intro e; rw [e] at h; simp at h)
  exact Nat.lt_of_lt_of_le h1 (Nat.le_trans (Nat.pow_le_pow_right K_pos (by omega)) h2)
theorem Nrm.len_le {l : List Nat} {k : Nat} (h : Nrm l) (hv : val l < K ^ k) : l.length ≤ k := by
  by_cases hl : l = []
  · subst hl; simp
  have h2 := h.ge hl
  rcases Nat.lt_or_ge k l.length with hk | hk
  · have h3 : K ^ k ≤ K ^ (l.length - 1) := Nat.pow_le_pow_right K_pos (by omega)
    omega
  · exact hk
theorem Nrm.nil : Nrm [] := by simp [Nrm]
theorem Nrm.eq_nil {l : List Nat} (h : Nrm l) (hv : val l = 0) : l = [] := by
  have := h.len_le (k := 0) (by rw [hv]; simp)
  exact List.eq_nil_of_length_eq_zero (by omega)
theorem val_inj (a b : List Nat) (ha : Lim a) (hb : Lim b) (hl : a.length = b.length) (hv : val a = val b) : a = b := by
  induction a generalizing b with
  | nil => exact (List.eq_nil_of_length_eq_zero hl.symm).symm
  | cons x a ih =>
    match b, hl with
    | y :: b, hl =>
      have hx := ha x (by simp)
      have hy := hb y (by simp)
      rw [val, val] at hv
      have e1 : x = y := by
        have := congrArg (· % K) hv
        simpa [Nat.add_mul_mod_self_left, Nat.mod_eq_of_lt hx, Nat.mod_eq_of_lt hy] using this
      have e2 : val a = val b := Nat.eq_of_mul_eq_mul_left K_pos (by omega)
      rw [e1, ih b (fun z hz => ha z (by simp [hz])) (fun z hz => hb z (by simp [hz])) (by simpa using hl) e2]
theorem Nrm.inj {a b : List Nat} (ha : Lim a) (hb : Lim b) (na : Nrm a) (nb : Nrm b) (hv : val a = val b) : a = b := by
  refine val_inj a b ha hb ?_ hv
  rcases Nat.lt_trichotomy a.length b.length with h | h | h
  · have := Nrm.lt_of_length ha nb h; omega
  · exact h
  · have := Nrm.lt_of_length hb na h; omega
theorem K_two : 2 ≤ K := by decide
theorem no_carry (P B a b r cr : Nat) (hB : 2 ≤ B) (h : r + P * B * cr = a + b) (ha : a < P) (hb : b < P) (hc : cr ≤ 1) : r = a + b := by
  rcases Nat.lt_or_ge cr 1 with h1 | h1
  · obtain rfl : cr = 0 := by omega
    simpa using h
  · obtain rfl : cr = 1 := by omega
    have := Nat.mul_le_mul_left P hB
    rw [Nat.mul_one] at h
    omega
/-- Nothing but zeros from place k on. -/
def Zer (l : List Nat) (k : Nat) : Prop := ∀ j x, k ≤ j → l[j]? = some x → x = 0
theorem Zer.top (l : List Nat) : Zer l l.length := fun j x hj hx => by
  have := (List.getElem?_eq_some_iff.1 hx).1
  omega
theorem Zer.step {l : List Nat} {k : Nat} (h : Zer l (k + 1)) (hx : l[k]? = some 0) : Zer l k := fun j x hj hjx => by
  rcases Nat.lt_or_ge k j with hlt | hge
  · exact h j x hlt hjx
  · obtain rfl : j = k := by omega
    rw [hx] at hjx
    injection hjx with e
    exact e.symm
theorem Zer.val {l : List Nat} {k : Nat} (h : Zer l k) (hk : k ≤ l.length) : Num.val (l.take k) = Num.val l := by
  rw [val_split l k hk, val_zeros (l.drop k), Nat.mul_zero, Nat.add_zero]
  intro x hx
  obtain ⟨j, hj⟩ := List.getElem?_of_mem hx
  rw [List.getElem?_drop] at hj
  exact h (k + j) x (by omega) hj
theorem nrm_take_of {l : List Nat} {k x : Nat} (hx : l[k]? = some x) (h0 : x ≠ 0) : Nrm (l.take (k + 1)) := by
  have hk := (List.getElem?_eq_some_iff.1 hx).1
  unfold Nrm
  rw [List.getLast?_take]
  simp [hx, h0]
theorem nrm_take_zero (l : List Nat) : Nrm (l.take 0) := by simp [Nrm]
end Num
end Go.Proofs.YtohlilgnognmgaaGreatDoor
/-
  Words for slices of 32-bit limbs in memory: no program is named here. 'Cel w A l': the cells at the address A hold the limbs l.
-/
namespace Go.Proofs.YtohlilgnognmgaaGreatDoor
open Go.RowKit

def Lv (x : Nat) : Value := .int .u32 (x : Int)
/-- The cells from ⟨g, off⟩ on hold the limbs l. -/
def CelAt (w : World) (g off : Nat) (l : List Nat) : Prop := ∀ (j x : Nat), l[j]? = some x → w.cell? ⟨g, off + j, none⟩ = some (.int .u32 (x : Int))
/-- The cells at A hold the limbs l; nothing is said of A where l is empty. S: where the block may lie. -/
def Cel (w : World) (S : Nat → Prop) (A : Option Addr) (l : List Nat) : Prop := 0 < l.length → ∃ g off, A = some ⟨g, off, none⟩ ∧ S g ∧ CelAt w g off l
/-- The value v is a slice that reads as the limbs l. -/
def Rd (w : World) (S : Nat → Prop) (v : Value) (l : List Nat) : Prop := ∃ A c, v = .slice A l.length c ∧ l.length ≤ c ∧ c ≤ 9223372036854775807 ∧ Num.Lim l ∧ Cel w S A l

theorem CelAt.keep {w w' : World} {g off : Nat} {l : List Nat} (h : CelAt w g off l) (k : ∀ o, w'.cell? ⟨g, o, none⟩ = w.cell? ⟨g, o, none⟩) : CelAt w' g off l := fun j x hx => (k _).trans (h j x hx)
theorem CelAt.take {w : World} {g off : Nat} {l : List Nat} (h : CelAt w g off l) (k : Nat) : CelAt w g off (l.take k) := fun j x hx => by
  rw [List.getElem?_take] at hx
  split at hx
  · exact h j x hx
  · cases hx
theorem CelAt.drop {w : World} {g off : Nat} {l : List Nat} (h : CelAt w g off l) (k : Nat) : CelAt w g (off + k) (l.drop k) := fun j x hx => by
  rw [List.getElem?_drop] at hx
  rw [Nat.add_assoc]
  exact h _ x hx
theorem Cel.keep {w w' : World} {S S' : Nat → Prop} {A : Option Addr} {l : List Nat} (h : Cel w S A l) (hS : ∀ g, S g → S' g) (k : ∀ g o, S g → w'.cell? ⟨g, o, none⟩ = w.cell? ⟨g, o, none⟩) : Cel w' S' A l := fun hl => by
  obtain ⟨g, off, e, hs, hc⟩ := h hl
  exact ⟨g, off, e, hS g hs, hc.keep (fun o => k g o hs)⟩
theorem Cel.take {w : World} {S : Nat → Prop} {A : Option Addr} {l : List Nat} (h : Cel w S A l) (k : Nat) : Cel w S A (l.take k) := fun hl => by
  obtain ⟨g, off, e, hs, hc⟩ := h (by rw [List.length_take] at hl; omega)
  exact ⟨g, off, e, hs, hc.take k⟩
theorem Cel.nil (w : World) (S : Nat → Prop) (A : Option Addr) : Cel w S A [] := fun h => by simp at h
theorem Rd.keep {w w' : World} {S S' : Nat → Prop} {v : Value} {l : List Nat} (h : Rd w S v l) (hS : ∀ g, S g → S' g) (k : ∀ g o, S g → w'.cell? ⟨g, o, none⟩ = w.cell? ⟨g, o, none⟩) : Rd w' S' v l := by
  obtain ⟨A, c, e, h1, h2, h3, h4⟩ := h
  exact ⟨A, c, e, h1, h2, h3, h4.keep hS k⟩
theorem Rd.nil (w : World) (S : Nat → Prop) : Rd w S (.slice none 0 0) [] := ⟨none, 0, rfl, Nat.le_refl _, by omega, Num.Lim.nil, Cel.nil _ _ _⟩
theorem Rd.below {w w' : World} {S : Nat → Prop} {v : Value} {l : List Nat} (h : Rd w S v l) (hb : Below w.heap.size w w') : Rd w' S v l := by
  obtain ⟨A, c, e, h1, h2, h3, h4⟩ := h
  refine ⟨A, c, e, h1, h2, h3, fun hl => ?_⟩
  obtain ⟨g, off, e, hs, hc⟩ := h4 hl
  exact ⟨g, off, e, hs, fun j x hx => by
    have := hc j x hx
    rw [hb.cell (World.block_lt_of_cell? w _ this)]
    exact this⟩
theorem Cel.below' {w w' : World} {S : Nat → Prop} {A : Option Addr} {l : List Nat} (h : Cel w S A l) (hb : Below w.heap.size w w') : Cel w' S A l := fun hl => by
  obtain ⟨g, off, e, hs, hc⟩ := h hl
  exact ⟨g, off, e, hs, fun j x hx => by
    have := hc j x hx
    rw [hb.cell (World.block_lt_of_cell? w _ this)]
    exact this⟩
theorem Rd.old {w : World} {S : Nat → Prop} {v : Value} {l : List Nat} (h : Rd w S v l) : Rd w (fun g => S g ∧ g < w.heap.size) v l := by
  obtain ⟨A, c, e, h1, h2, h3, h4⟩ := h
  refine ⟨A, c, e, h1, h2, h3, fun hl => ?_⟩
  obtain ⟨g, off, e, hs, hc⟩ := h4 hl
  refine ⟨g, off, e, ⟨hs, ?_⟩, hc⟩
  obtain ⟨x, hx⟩ : ∃ x, l[0]? = some x := ⟨_, List.getElem?_eq_getElem hl⟩
  exact World.block_lt_of_cell? w _ (hc 0 x hx)
theorem Rd.mono {w : World} {S S' : Nat → Prop} {v : Value} {l : List Nat} (h : Rd w S v l) (hS : ∀ g, S g → S' g) : Rd w S' v l := h.keep hS (fun _ _ _ => rfl)

/-- Block g is just the limbs l, none frozen. -/
def Own (e : TypeId) (w : World) (g : Nat) (l : List Nat) : Prop := w.heap[g]? = some (.cells (l.map Lv).toArray e (0, 0))
section
variable {e : TypeId} {w w' : World} {g : Nat} {l : List Nat}
theorem Own.lt (h : Own e w g l) : g < w.heap.size := by
  rcases Nat.lt_or_ge g w.heap.size with hlt | hge
  · exact hlt
  · unfold Own at h; rw [Array.getElem?_eq_none hge] at h; cases h
theorem Own.cel (h : Own e w g l) : CelAt w g 0 l := fun j x hx => by
  rw [Nat.zero_add, cell_of_row w g j _ e (0, 0) h]
  simp [hx, Lv]
theorem Own.celAt (h : Own e w g l) (off : Nat) : CelAt w g off (l.drop off) := by
  have := h.cel.drop off
  rwa [Nat.zero_add] at this
theorem Own.frozen (h : Own e w g l) (i : Nat) : w.frozen? ⟨g, i, none⟩ = false := frozen_of_row w g i _ e h
theorem Own.drew (h : Own e w g l) : Own e w.drew g l := h
theorem Own.drewN (h : Own e w g l) (n : Nat) : Own e (w.drewN n) g l := h
theorem Own.alloc (h : Own e w g l) (o : Obj) : Own e (w.alloc o) g l := (Below.heap_alloc w o g h.lt).trans h
theorem Own.set_ (h : Own e w g l) (i x : Nat) : Own e (w.setCell ⟨g, i, none⟩ (.int .u32 (x : Int))) g (l.set i x) := by
  unfold Own at h ⊢
  simp [World.setCell, Array.getElem?_modify, h]
  rfl
theorem Own.below {B : Nat} (h : Own e w g l) (hb : Below B w w') (hg : g < B) : Own e w' g l := (hb.block g hg).trans h
theorem Own.grown {row : Option Nat} (h : Own e w g l) (hb : w.grownBy w' row) (hg : some g ≠ row) : Own e w' g l := (hb.block g h.lt hg).trans h
theorem Own.rd (h : Own e w g l) (S : Nat → Prop) (hS : S g) (hl : Num.Lim l) (hm : l.length ≤ 9223372036854775807) : Rd w S (.slice (some ⟨g, 0, none⟩) l.length l.length) l :=
  ⟨_, _, rfl, Nat.le_refl _, hm, hl, fun _ => ⟨g, 0, rfl, hS, h.cel⟩⟩
theorem Own.rdTake (h : Own e w g l) (S : Nat → Prop) (hS : S g) (hl : Num.Lim l) (k c : Nat) (hk : k ≤ l.length) (hc : k ≤ c) (hm : c ≤ 9223372036854775807) : Rd w S (.slice (some ⟨g, 0, none⟩) k c) (l.take k) := by
  have e1 : (l.take k).length = k := by rw [List.length_take]; omega
  exact ⟨_, c, by rw [e1], by omega, hm, hl.take k, fun _ => ⟨g, 0, rfl, hS, h.cel.take k⟩⟩
theorem Own.of_row {base n : Nat} {xs : List Value} (h : w.ownsRow base e 1 (.slice (some ⟨g, 0, none⟩) n n) n xs) (hx : xs = l.map Lv) : Own e w g l := by
  rcases h.2 with ⟨h1, _⟩ | ⟨g', cap, cur, h1, _, hh, _, _, hs, ht⟩
  · simp at h1
  · simp only [Value.slice.injEq, Option.some.injEq, Addr.mk.injEq, and_true, true_and] at h1
    obtain ⟨rfl, rfl⟩ := h1
    have : cur.toList = xs := by
      rw [← ht, List.take_of_length_le]
      simp [hs]
    unfold Own
    rw [hh, ← hx, ← this]
theorem Own.row (h : Own e w g l) (base : Nat) (hb : base ≤ g) (hm : l.length ≤ maxLen) : w.ownsRow base e 1 (.slice (some ⟨g, 0, none⟩) l.length l.length) l.length (l.map Lv) :=
  ⟨by simp, .inr ⟨g, l.length, _, rfl, hb, h, Nat.le_refl _, hm, by simp, by rw [Nat.mul_one]; exact List.take_of_length_le (by simp)⟩⟩
end

/-- A block with its part from off on, k limbs long, replaced by r. -/
def mid (l : List Nat) (off : Nat) (r : List Nat) : List Nat := l.take off ++ (r ++ l.drop (off + r.length))
theorem mid_nil (l : List Nat) (off : Nat) : mid l off [] = l := by simp [mid]
theorem mid_length (l : List Nat) (off : Nat) (r : List Nat) (h : off + r.length ≤ l.length) : (mid l off r).length = l.length := by simp [mid]; omega
theorem mid_at (l : List Nat) (off : Nat) (r : List Nat) (h : off ≤ l.length) (j : Nat) (hj : r.length ≤ j) : (mid l off r)[off + j]? = l[off + j]? := by
  unfold mid
  rw [List.getElem?_append_right (by simp; omega), List.getElem?_append_right (by simp; omega), List.getElem?_drop]
  congr 1
  simp
  omega
theorem mid_in (l : List Nat) (off : Nat) (r : List Nat) (h : off ≤ l.length) (j : Nat) (hj : j < r.length) : (mid l off r)[off + j]? = r[j]? := by
  unfold mid
  rw [List.getElem?_append_right (by simp; omega), List.getElem?_append_left (by simp; omega)]
  congr 1
  simp
  omega
theorem mid_set (l : List Nat) (off : Nat) (r : List Nat) (x : Nat) (h : off + r.length < l.length) : (mid l off r).set (off + r.length) x = mid l off (r ++ [x]) := by
  have e1 : (l.take off).length = off := by simp; omega
  have e2 : l.drop (off + r.length) = l[off + r.length] :: l.drop (off + r.length + 1) := List.drop_eq_getElem_cons h
  unfold mid
  rw [List.set_append_right _ _ (by omega), e1, List.set_append_right _ _ (by omega), e2]
  simp [Nat.add_assoc]
theorem mid_lim {l : List Nat} {off : Nat} {r : List Nat} (hl : Num.Lim l) (hr : Num.Lim r) : Num.Lim (mid l off r) := (hl.take _).append (hr.append (hl.drop _))

theorem only_setCell {a w : World} {g : Nat} (h : a.grownBy w (some g)) (o : Nat) (u : Value) : a.grownBy (w.setCell ⟨g, o, none⟩ u) (some g) :=
  ⟨h.os, h.tape, h.output, by simpa [World.setCell] using h.size, fun i hi hne => (Below.heap_setCell w ⟨g, o, none⟩ u i (by rintro rfl; exact hne rfl)).trans (h.block i hi hne)⟩
theorem only_refl (w : World) (r : Option Nat) : w.grownBy w r := ⟨rfl, rfl, rfl, Nat.le_refl _, fun _ _ _ => rfl⟩
theorem only_trans {a b c : World} {r : Option Nat} (h : a.grownBy b r) (k : b.grownBy c r) : a.grownBy c r :=
  ⟨k.os.trans h.os, k.tape.trans h.tape, k.output.trans h.output, Nat.le_trans h.size k.size, fun i hi hne => (k.block i (Nat.lt_of_lt_of_le hi h.size) hne).trans (h.block i hi hne)⟩
theorem only_drewN {a w : World} {row : Option Nat} (h : a.grownBy w row) (n : Nat) : a.grownBy (w.drewN n) row := ⟨h.os, h.tape, h.output, h.size, h.block⟩
theorem only_cell {w w' : World} {g g' o : Nat} (h : w.grownBy w' (some g)) (hne : g' ≠ g) {u : Value} (hc : w.cell? ⟨g', o, none⟩ = some u) : w'.cell? ⟨g', o, none⟩ = some u :=
  h.cell hc (by simpa using hne)
theorem Cel.only {w w' : World} {S : Nat → Prop} {A : Option Addr} {l : List Nat} {g : Nat} (h : Cel w S A l) (hS : ∀ i, S i → i ≠ g) (hb : w.grownBy w' (some g)) : Cel w' S A l := fun hl => by
  obtain ⟨g', off, e, hs, hc⟩ := h hl
  exact ⟨g', off, e, hs, fun j x hx => only_cell hb (hS _ hs) (hc j x hx)⟩

/-- What a loop that writes the limbs of a part one behind the other keeps: k limbs r are written. -/
def Wr (e : TypeId) (g off : Nat) (l r : List Nat) (w wr : World) : Prop := Own e wr g (mid l off r) ∧ w.grownBy wr (some g)
theorem Wr.start {e : TypeId} {g off : Nat} {l : List Nat} {w : World} (h : Own e w g l) : Wr e g off l [] w w := ⟨by rw [mid_nil]; exact h, only_refl _ _⟩
theorem Wr.cell {e : TypeId} {g off : Nat} {l r : List Nat} {w wr : World} (h : Wr e g off l r w wr) {k x : Nat} (hk : r.length = k) (hx : l[off + k]? = some x) : wr.cell? ⟨g, off + k, none⟩ = some (.int .u32 (x : Int)) := by
  have hlt := (List.getElem?_eq_some_iff.1 hx).1
  have := h.1.cel (off + k) x (by rw [mid_at l off r (by omega) k (by omega)]; exact hx)
  rwa [Nat.zero_add] at this
theorem Wr.step {e : TypeId} {g off : Nat} {l r : List Nat} {w wr : World} (h : Wr e g off l r w wr) {k : Nat} (hk : r.length = k) (hlt : off + k < l.length) (x : Nat) (z : Int) (hz : z = (x : Int)) : Wr e g off l (r ++ [x]) w (wr.setCell ⟨g, off + k, none⟩ (.int .u32 z)) := by
  subst hk
  subst hz
  exact ⟨by rw [← mid_set l off r x hlt]; exact h.1.set_ _ _, only_setCell h.2 _ _⟩

/-- The loop of addInto. -/
def AddInv (e : TypeId) (g off k cr : Nat) (l lb : List Nat) (w wr : World) : Prop :=
  ∃ r, r.length = k ∧ Num.Lim r ∧ Num.val r + Num.K ^ k * cr = Num.val ((l.drop off).take k) + Num.val (lb.take k) ∧ Wr e g off l r w wr
theorem AddInv.start {e : TypeId} {g off : Nat} {l lb : List Nat} {w : World} (h : Own e w g l) : AddInv e g off 0 0 l lb w w := ⟨[], rfl, Num.Lim.nil, by simp [Num.val], Wr.start h⟩
section
variable {e : TypeId} {g off k cr : Nat} {l lb : List Nat} {w wr : World}
theorem AddInv.cell (h : AddInv e g off k cr l lb w wr) {x : Nat} (hx : l[off + k]? = some x) : wr.cell? ⟨g, off + k, none⟩ = some (.int .u32 (x : Int)) := by
  obtain ⟨r, hk, _, _, hw⟩ := h
  exact hw.cell hk hx
theorem AddInv.frozen (h : AddInv e g off k cr l lb w wr) (i : Nat) : wr.frozen? ⟨g, i, none⟩ = false := by
  obtain ⟨r, hk, _, _, hw⟩ := h
  exact hw.1.frozen i
theorem AddInv.other (h : AddInv e g off k cr l lb w wr) {g' o : Nat} (hne : g' ≠ g) {u : Value} (hc : w.cell? ⟨g', o, none⟩ = some u) : wr.cell? ⟨g', o, none⟩ = some u := by
  obtain ⟨r, hk, _, _, hw⟩ := h
  exact only_cell hw.2 hne hc
theorem val_take_succ (l : List Nat) (k x : Nat) (hx : l[k]? = some x) : Num.val (l.take (k + 1)) = Num.val (l.take k) + Num.K ^ k * x := by
  have hk := (List.getElem?_eq_some_iff.1 hx).1
  rw [List.take_add_one, hx]
  simp only [Option.toList]
  rw [Num.val_snoc, List.length_take, Nat.min_eq_left (by omega)]
theorem AddInv.step (h : AddInv e g off k cr l lb w wr) {x : Nat} (hx : l[off + k]? = some x) (y : Nat) (hy : Num.val (lb.take (k + 1)) = Num.val (lb.take k) + Num.K ^ k * y) (z : Int) (hz : z = ((cr + x + y) % 4294967296 : Nat)) :
    AddInv e g off (k + 1) ((cr + x + y) / 4294967296) l lb w (wr.setCell ⟨g, off + k, none⟩ (.int .u32 z)) := by
  obtain ⟨r, hk, hr, hv, hw⟩ := h
  have hlt := (List.getElem?_eq_some_iff.1 hx).1
  refine ⟨r ++ [(cr + x + y) % 4294967296], by simp [hk], hr.append (Num.Lim.cons (Nat.mod_lt _ (by decide)) Num.Lim.nil), ?_, hw.step hk hlt _ z hz⟩
  rw [Num.val_snoc, hk, val_take_succ (l.drop off) k x (by rw [List.getElem?_drop]; exact hx), hy, Nat.pow_succ]
  have hd : (cr + x + y) % 4294967296 + Num.K * ((cr + x + y) / 4294967296) = cr + x + y := Nat.mod_add_div _ _
  have := congrArg (Num.K ^ k * ·) hd
  simp only [Nat.mul_add, ← Nat.mul_assoc] at this ⊢
  omega
theorem take_past (lb : List Nat) (k : Nat) (h : lb.length ≤ k) : Num.val (lb.take (k + 1)) = Num.val (lb.take k) + Num.K ^ k * 0 := by
  rw [List.take_of_length_le (by omega), List.take_of_length_le h]; simp
end
/-- What addInto leaves. -/
def AddPost (e : TypeId) (g off n : Nat) (l lb : List Nat) (w w' : World) : Prop :=
  ∃ r, r.length = n ∧ Num.Lim r ∧ (∃ cr, cr ≤ 1 ∧ Num.val r + Num.K ^ n * cr = Num.val ((l.drop off).take n) + Num.val lb) ∧ Wr e g off l r w w'
theorem AddInv.done {e : TypeId} {g off n cr : Nat} {l lb : List Nat} {w wr : World} (h : AddInv e g off n cr l lb w wr) (hc : cr ≤ 1) (hm : lb.length ≤ n) : AddPost e g off n l lb w wr := by
  obtain ⟨r, hk, hr, hv, hw⟩ := h
  exact ⟨r, hk, hr, ⟨cr, hc, by rw [hv, List.take_of_length_le hm]⟩, hw⟩

theorem mid_whole (l r : List Nat) (h : r.length = l.length) : mid l 0 r = r := by simp [mid, h]
theorem AddPost.fin {e : TypeId} {g n : Nat} {la lb : List Nat} {w w' : World} (h : AddPost e g 0 (n + 1) (la ++ (List.replicate (n + 1) 0).drop n) lb w w') (ha : la.length = n) (hb : lb.length ≤ n) (hLa : Num.Lim la) (hLb : Num.Lim lb) :
    ∃ r, r.length = n + 1 ∧ Num.Lim r ∧ Num.val r = Num.val la + Num.val lb ∧ Own e w' g r ∧ w.grownBy w' (some g) := by
  obtain ⟨r, hr, hL, ⟨cr, hcr, hv⟩, how, hg⟩ := h
  have e1 : (la ++ (List.replicate (n + 1) 0).drop n).length = n + 1 := by simp [ha]
  refine ⟨r, hr, hL, ?_, by rw [mid_whole _ _ (by omega)] at how; exact how, hg⟩
  rw [List.drop_zero, List.take_of_length_le (by omega), Num.val_append, List.drop_replicate, Num.val_replicate, Nat.mul_zero, Nat.add_zero] at hv
  have h1 := Num.val_lt la hLa
  have h2 := Nat.lt_of_lt_of_le (Num.val_lt lb hLb) (Nat.pow_le_pow_right Num.K_pos hb)
  rw [ha] at h1
  rw [Nat.pow_succ] at hv
  exact Num.no_carry _ _ _ _ _ _ Num.K_two hv h1 h2 hcr
theorem Rd.open_ {w : World} {S : Nat → Prop} {v : Value} {l : List Nat} (h : Rd w S v l) : ∃ A n c, v = .slice A n c ∧ Hid (l.length = n) ∧ n ≤ c ∧ c ≤ 9223372036854775807 ∧ Hid (Num.Lim l) ∧ Cel w S A l := by
  obtain ⟨A, c, e, h1, h2, h3, h4⟩ := h
  exact ⟨A, _, c, e, rfl, h1, h2, h3, h4⟩
theorem Cel.old {w : World} {S : Nat → Prop} {A : Option Addr} {l : List Nat} (h : Cel w S A l) : Cel w (fun g => S g ∧ g < w.heap.size) A l := fun hl => by
  obtain ⟨g, off, e, hs, hc⟩ := h hl
  refine ⟨g, off, e, ⟨hs, ?_⟩, hc⟩
  obtain ⟨x, hx⟩ : ∃ x, l[0]? = some x := ⟨_, List.getElem?_eq_getElem hl⟩
  exact World.block_lt_of_cell? w _ (hc 0 x hx)
theorem Cel.mono {w : World} {S S' : Nat → Prop} {A : Option Addr} {l : List Nat} (h : Cel w S A l) (hS : ∀ g, S g → S' g) : Cel w S' A l := h.keep hS (fun _ _ _ => rfl)
theorem Own.celTop {e : TypeId} {w : World} {g : Nat} {l : List Nat} (h : Own e w g l) : Cel w (fun _ => True) (some ⟨g, 0, none⟩) l := fun _ => ⟨g, 0, rfl, trivial, h.cel⟩

/-- make([]uint32, n) -/
theorem wpList_make_u32 {P : Program} (w : World) {ops : Array Oper} {rest : List Oper} {o : Oper} {a : Act} {Q : Exit → Act → World → Prop}
    (hg : o.guard = none) (l c : Operand) (t : TypeId) (hop : o.op = Op.makeSlice t l c) (e : TypeId) (i : TypeInfo) (h1 : P.underlying t = some (.slice e)) (h2 : P.info? e = some i) (h3 : i.zero = some (.int .u32 0)) (h4 : i.size = 1) (h5 : i.bytes = 4)
    (kl kc : IntKind) (L C : Int) (n : Nat) (hl : a.eval l = .int kl L) (hc : a.eval c = .int kc C) (hL : L = (n : Int)) (hC : C = (n : Int)) (b2 : n ≤ 1000000000)
    (hK : ∀ g w', g = w.heap.size → Own e w' g (List.replicate n 0) → Below w.heap.size w w' → w.heap.size < w'.heap.size → wpList P ops Q rest (a.put o.dst (.slice (some ⟨g, 0, none⟩) n n)) w') :
    wpList P ops Q (o :: rest) a w := by
  refine wpList_make_full w hg l c t hop 0 e i _ 1 h1 h2 h3 h4 kl kc L C n hl hc hL hC (by rw [h5]; omega) (by unfold maxLen; omega) (Nat.zero_le _) ?_
  intro w' hown hgr
  refine hK _ _ rfl ?_ ⟨hgr.os, hgr.tape, hgr.output, hgr.size, fun k hk => hgr.block k hk (by simp)⟩ ?_
  · refine Own.of_row hown ?_
    rw [Nat.mul_one, show (Value.int .u32 0).cells = #[Value.int .u32 0] from rfl, toList_madeCells_one, List.map_replicate]
    rfl
  · have := hown.lt w.heap.size rfl
    exact this.2

/-- copy into the head of a block of the call's own -/
theorem wpList_copy_u32 {P : Program} {w : World} {ops : Array Oper} {rest : List Oper} {o : Oper} {a : Act} {Q : Exit → Act → World → Prop} (hgd : o.guard = none) (d s : Operand) (dT sT : TypeId)
    (ho : o.op = .call { callee := .builtin .copy, args := #[d, s], argTypes := #[dT, sT] }) (elem : TypeId) (hu : P.underlying dT = some (.slice elem)) (hsz : (P.info? elem).map (·.size) = some 1)
    (g dLen dCap sLen sCap : Nat) (A : Option Addr) (hd : a.eval d = .slice (some ⟨g, 0, none⟩) dLen dCap) (hs : a.eval s = .slice A sLen sCap)
    (e : TypeId) (l ls : List Nat) (S : Nat → Prop) (hown : Own e w g l) (hl : l.length = dLen) (hls : ls.length = sLen) (hle : sLen ≤ dLen) (hcel : Cel w S A ls)
    (h : ∀ w', Own e w' g (ls ++ l.drop sLen) → Below g w w' → wpList P ops Q rest (a.put o.dst (goInt sLen)) w') :
    wpList P ops Q (o :: rest) a w := by
  subst hls
  by_cases h0 : ls.length = 0
  · have hnil : ls = [] := List.eq_nil_of_length_eq_zero h0
    subst hnil
    refine wpList_copy_nothing hgd d s dT sT ho elem hu hsz _ _ dLen dCap 0 sCap hd hs (by simp) ?_
    exact h w (by simpa using hown) (Below.refl _ _)
  · obtain ⟨g', off, rfl, _, hc⟩ := hcel (by omega)
    have hadd : ∀ j, (⟨g', off, none⟩ : Addr).add j = ⟨g', off + j, none⟩ := fun j => by unfold Addr.add; split <;> simp_all
    have hw := wpList_copy_own (P := P) (w := w) (ops := ops) (rest := rest) (o := o) (a := a) (Q := Q) hgd d s dT sT ho elem hu hsz g 0 dLen dCap ⟨g', off, none⟩ ls.length sCap hd hs _ e hown (ls.map Lv)
      (by rw [List.length_map]; exact (Nat.min_eq_left hle).symm)
      (fun j v hv => by
        rw [hadd]
        rw [List.getElem?_map] at hv
        cases hx : ls[j]? with
        | none => rw [hx] at hv; cases hv
        | some x => rw [hx] at hv; injection hv with hv; rw [← hv]; exact hc j x hx)
      (by simp; omega)
      (fun v hv => by obtain ⟨x, _, rfl⟩ := List.mem_map.1 hv; rfl)
    simp only [List.length_map] at hw
    refine hw (h _ ?_ ⟨rfl, rfl, rfl, by simp [World.setRow], fun k hk => setRow_other w g k _ (by omega)⟩)
    unfold Own
    rw [setRow_heap w g _ _ e _ hown]
    simp
end Go.Proofs.YtohlilgnognmgaaGreatDoor
/-
  The walk of natural.trim.
-/
namespace Go.Proofs.YtohlilgnognmgaaGreatDoor
open Go.RowKit

set_option maxHeartbeats 400000 in
theorem trim_walk (S : Nat → Prop) (A : Option Addr) (n c : Nat) (l : List Nat) (w : World) (hn : n = l.length) (hlc : n ≤ c) (hc : c ≤ 9223372036854775807) (h : Cel w S A l) :
    Calls Tryz.prog 85 #[.slice A n c] w fun e w' => (∃ k, k ≤ n ∧ e = .returned (.slice A k c) ∧ Num.Zer l k ∧ Num.Nrm (l.take k)) ∧ w = w' := by
  have Hn := Lib.hid hn
  clear hn
  go_enter Tryz.func85, Tryz.ntmps85
  go_wp2
  go_loop [3] (fun i => ∃ k : Nat, k ≤ n ∧ i = .int .i64 k ∧ Num.Zer l k) (fun i => (intOf i).toNat)
  case atStart => exact ⟨n, Nat.le_refl _, rfl, by rw [Hn.out]; exact Num.Zer.top l⟩
  case round =>
    obtain ⟨k, hk, rfl, hz⟩ := hrel
    by_cases h0 : k = 0
    · have h0' : ¬ 0 < k := by omega
      clear h0
      go_wp2
      go_ret
      have e : k = 0 := by omega
      exact ⟨⟨k, hk, rfl, hz, by rw [e]; exact Num.nrm_take_zero l⟩, rfl⟩
    · have h0' : 0 < k := by omega
      have hkl : k - 1 < l.length := by have := Hn.out; omega
      obtain ⟨g, off, rfl, _, hcs⟩ := h (by omega)
      obtain ⟨x, hx⟩ : ∃ x, l[k - 1]? = some x := ⟨_, List.getElem?_eq_getElem hkl⟩
      have hcell := hcs _ _ hx
      have Hx := Lib.hid hx
      have Hk := Lib.hid hkl
      clear hx h0 hcs hkl h
      by_cases hx0 : x = 0
      · subst hx0
        go_wp2
        go_round
        case rel => exact ⟨k - 1, by omega, by go_num, Num.Zer.step (by rw [show k - 1 + 1 = k from by omega]; exact hz) Hx.out⟩
        case measure => simp [intOf]; omega
      · have hxb : ((x : Int) == 0) = false := by simp; omega
        go_wp2
        go_ret
        exact ⟨⟨k, hk, rfl, hz, by have := Num.nrm_take_of Hx.out hx0; rwa [show k - 1 + 1 = k from by omega] at this⟩, rfl⟩
end Go.Proofs.YtohlilgnognmgaaGreatDoor
/-
  The walks of natural.trim, clone, Norm, sign, addInto and Add; a result of a function is a number in normal form in memory of its own.
-/
namespace Go.Proofs.YtohlilgnognmgaaGreatDoor
open Go.RowKit

/-- A callee that leaves the world alone, called in a region behind q draws. -/
theorem quiet_q {P : Program} {f : FuncId} {args : Array Value} {w : World} {q n : Nat} {v : Value} (h : ∀ W, Calls P f args W fun e w' => e = .returned v ∧ W = w') :
    Calls P f args (w.drewN (q + n)) fun e w' => e = .returned v ∧ ∃ k, w' = w.drewN (q + k) := (h _).mono fun _ _ ⟨he, hw⟩ => ⟨he, n, hw.symm⟩
theorem quiet_0 {P : Program} {f : FuncId} {args : Array Value} {w : World} {n : Nat} {v : Value} (h : ∀ W, Calls P f args W fun e w' => e = .returned v ∧ W = w') :
    Calls P f args (w.drewN n) fun e w' => e = .returned v ∧ ∃ k, w' = w.drewN k := (h _).mono fun _ _ ⟨he, hw⟩ => ⟨he, n, hw.symm⟩

theorem info_u32 : (Tryz.prog.info? 45).map (fun i => (i.zero, i.size, i.bytes)) = some (some (.int .u32 0), 1, 4) := by kernel_rfl
theorem size_u32 : (Tryz.prog.info? 45).map (·.size) = some 1 := by kernel_rfl
/-- A result: a number in normal form, of value m; what was there before the call is as it was. -/
def Res (w w' : World) (v : Value) (m : Nat) : Prop := ∃ l, Rd w' (fun _ => True) v l ∧ Num.Nrm l ∧ Num.val l = m ∧ Below w.heap.size w w'
/-- The same, in a block of the call's own. -/
def New (w w' : World) (v : Value) (l : List Nat) : Prop := ∃ g, v = .slice (some ⟨g, 0, none⟩) l.length l.length ∧ w.heap.size ≤ g ∧ Own 45 w' g l ∧ Below w.heap.size w w'

set_option maxHeartbeats 400000 in
theorem clone_walk (S : Nat → Prop) (A : Option Addr) (n c : Nat) (l : List Nat) (w : World) (hn : l.length = n) (hb : n ≤ 100000000) (h : Cel w S A l) :
    Calls Tryz.prog 84 #[.slice A n c] w fun e w' => ∃ v, e = .returned v ∧ New w w' v l := by
  obtain ⟨i0, hi, hz0, hz1, hz2⟩ := info_parts info_u32
  have Hn := Lib.hid hn
  clear hn
  go_enter Tryz.func84, Tryz.ntmps84
  go_wp2_with (first
    | (at_make; refine wpList_make_u32 _ rfl (.tmp 5) (.tmp 5) 23 rfl 45 i0 Tryz.underlying23 hi hz0 hz1 hz2 .i64 .i64 n n n rfl rfl rfl rfl (by omega) ?_; intro g w1 hg1 hown1 hb1 hs1; have Hg := Lib.hid hg1; clear hg1)
    | (with_reducible refine wpList_copy_u32 rfl (.tmp 7) (.tmp 8) 23 23 rfl 45 Tryz.underlying23 size_u32 g n n n c A rfl rfl 45 _ l S hown1 (by simp) Hn.out (Nat.le_refl _) (h.below' hb1) ?_; intro w2 hown2 hb2))
  go_ret
  refine ⟨_, rfl, g, by rw [Hn.out]; rfl, ?_, ?_, ?_⟩
  · have := Hg.out; omega
  · simpa [Hn.out] using hown2
  · exact hb1.trans (hb2.mono (by have := Hg.out; omega))

set_option maxHeartbeats 400000 in
theorem norm_walk (S : Nat → Prop) (A : Option Addr) (n c : Nat) (l : List Nat) (w : World) (hn : l.length = n) (hlc : n ≤ c) (hc : c ≤ 9223372036854775807) (hb : n ≤ 100000000) (h : Cel w S A l) :
    Calls Tryz.prog 54 #[.slice A n c] w fun e w' => ∃ v k, k ≤ n ∧ e = .returned v ∧ New w w' v (l.take k) ∧ Num.Zer l k ∧ Num.Nrm (l.take k) := by
  have Hn := Lib.hid hn
  clear hn
  go_enter Tryz.func54, Tryz.ntmps54
  go_wp2_with (first
    | (go_at_call 85; refine (trim_walk S A n c l _ Hn.out.symm hlc hc h).mono ?_; rintro e w' ⟨⟨k, hk, rfl, hz, hnr⟩, rfl⟩)
    | (go_at_call 84; refine (clone_walk S A k c (l.take k) _ (by have := Hn.out; rw [List.length_take]; omega) (by omega) (h.take k)).mono ?_; rintro e w' ⟨v, rfl, hnew⟩))
  go_ret
  exact ⟨v, k, hk, rfl, hnew, hz, hnr⟩

theorem sign_true (w : World) : Calls Tryz.prog 101 #[.bool true] w fun e w' => e = .returned (.int .i64 1) ∧ w = w' := by
  go_enter Tryz.func101, Tryz.ntmps101
  go_wp2
  go_ret
  exact ⟨rfl, rfl⟩
theorem sign_false (w : World) : Calls Tryz.prog 101 #[.bool false] w fun e w' => e = .returned (.int .i64 (-1)) ∧ w = w' := by
  go_enter Tryz.func101, Tryz.ntmps101
  go_wp2
  go_ret
  exact ⟨rfl, rfl⟩
def signI (b : Bool) : Int := if b then 1 else -1
theorem signI_true {b : Bool} (h : b = true) : signI b = 1 := by rw [h]; rfl
theorem signI_false {b : Bool} (h : b = false) : signI b = -1 := by rw [h]; rfl
theorem sign_any (b : Bool) (w : World) : Calls Tryz.prog 101 #[.bool b] w fun e w' => e = .returned (.int .i64 (signI b)) ∧ w = w' := by
  cases b
  · exact sign_false w
  · exact sign_true w

set_option maxHeartbeats 1000000 in
theorem addInto_walk (A : Option Addr) (g off n m c c' : Nat) (l lb : List Nat) (w : World) (hown : Own 45 w g l) (hfit : off + n ≤ l.length) (hc : n ≤ 9223372036854775807) (hb : Cel w (· ≠ g) A lb) (hm : lb.length = m) (hmn : m ≤ n) (_hmc : m ≤ c') (hL : Num.Lim l) (hLb : Num.Lim lb) :
    Calls Tryz.prog 86 #[.slice (some ⟨g, off, none⟩) n c, .slice A m c'] w fun e w' => e = .returned (.tuple #[]) ∧ AddPost 45 g off n l lb w w' := by
  have HL := Lib.hid hL
  have HLb := Lib.hid hLb
  have Hm := Lib.hid hm
  clear hm hL hLb
  go_enter Tryz.func86, Tryz.ntmps86
  go_wp2
  go_loopw [4, 8] (fun cy i wr => ∃ k : Nat, k ≤ n ∧ i = .int .i64 k ∧ ∃ cr : Nat, cr ≤ 1 ∧ cy = .int .u64 cr ∧ AddInv 45 g off k cr l lb w wr) (fun _ i _ => n - (intOf i).toNat)
  case atStart => exact ⟨0, Nat.zero_le _, rfl, 0, by omega, rfl, AddInv.start hown⟩
  case round =>
    obtain ⟨k, hk, rfl, cr, hcr, rfl, hinv⟩ := hrel
    by_cases hlt : k < n
    · obtain ⟨x, hx⟩ : ∃ x, l[off + k]? = some x := ⟨_, List.getElem?_eq_getElem (by omega)⟩
      have hxb : x < 4294967296 := HL.out.at hx
      have hcell := hinv.cell hx
      have hfr := hinv.frozen (off + k)
      have Hx := Lib.hid hx
      clear hx
      by_cases hkm : k < m
      · obtain ⟨g', off', rfl, hg', hcb⟩ := hb (by have := Hm.out; omega)
        obtain ⟨y, hy⟩ : ∃ y, lb[k]? = some y := ⟨_, List.getElem?_eq_getElem (by have := Hm.out; omega)⟩
        have hyb : y < 4294967296 := HLb.out.at hy
        have hcelly := hinv.other hg' (hcb _ _ hy)
        have Hy := Lib.hid hy
        clear hy hcb
        go_wp2
        go_roundw
        case rel => exact ⟨k + 1, by omega, by go_num, (cr + x + y) / 4294967296, by omega, by go_num, hinv.step Hx.out y (val_take_succ _ _ _ Hy.out) _ (by omega)⟩
        case measure => simp [intOf]; omega
      · have hmk : m ≤ k := by omega
        clear hkm
        go_wp2
        go_roundw
        case rel => exact ⟨k + 1, by omega, by go_num, (cr + x + 0) / 4294967296, by omega, by go_num, hinv.step Hx.out 0 (take_past _ _ (by have := Hm.out; omega)) _ (by omega)⟩
        case measure => simp [intOf]; omega
    · go_wp2
      go_end0
      obtain rfl : k = n := by omega
      exact ⟨rfl, hinv.done hcr (by have := Hm.out; omega)⟩
end Go.Proofs.YtohlilgnognmgaaGreatDoor
/-
  The walk of natural.Cmp: -1, 0 or 1 as the first number is less, equal or greater.
-/
namespace Go.Proofs.YtohlilgnognmgaaGreatDoor
open Go.RowKit

def cmpI (a b : Nat) : Int := if a < b then -1 else if a = b then 0 else 1
theorem cmpI_lt {a b : Nat} (h : a < b) : cmpI a b = -1 := by simp [cmpI, h]
theorem cmpI_gt {a b : Nat} (h : b < a) : cmpI a b = 1 := by unfold cmpI; rw [if_neg (by omega), if_neg (by omega)]
theorem cmpI_eq {a b : Nat} (h : a = b) : cmpI a b = 0 := by unfold cmpI; rw [if_neg (by omega), if_pos h]
theorem ret_i64 {a b : Int} (h : a = b) : Ending.returned (.int .i64 a) = .returned (.int .i64 b) := by rw [h]
theorem cmp_at (p q P x y D : Nat) (hp : p < P) (h : x < y) : p + P * (x + D) < q + P * (y + D) := by
  have : P * (x + 1 + D) ≤ P * (y + D) := Nat.mul_le_mul_left _ (by omega)
  have e : P * (x + 1 + D) = P * (x + D) + P := by rw [show x + 1 + D = (x + D) + 1 from by omega, Nat.mul_add, Nat.mul_one]
  omega
theorem val_at (l : List Nat) (k x : Nat) (hx : l[k]? = some x) : Num.val l = Num.val (l.take k) + Num.K ^ k * (x + Num.K * Num.val (l.drop (k + 1))) := by
  have hk := (List.getElem?_eq_some_iff.1 hx).1
  rw [Num.val_split l k (by omega)]
  congr 2
  rw [List.drop_eq_getElem_cons hk]
  have e := (List.getElem?_eq_some_iff.1 hx).2
  rw [e]
  rfl
/-- Two lists of n limbs that agree from k on. -/
def Top (la lb : List Nat) (k : Nat) : Prop := la.drop k = lb.drop k
theorem Top.start (la lb : List Nat) (n : Nat) (ha : la.length = n) (hb : lb.length = n) : Top la lb n := by
  unfold Top; rw [List.drop_of_length_le (by omega), List.drop_of_length_le (by omega)]
theorem Top.step {la lb : List Nat} {k x : Nat} (h : Top la lb (k + 1)) (hx : la[k]? = some x) (hy : lb[k]? = some x) : Top la lb k := by
  unfold Top at h ⊢
  have hk := (List.getElem?_eq_some_iff.1 hx).1
  have hl := (List.getElem?_eq_some_iff.1 hy).1
  rw [List.drop_eq_getElem_cons hk, List.drop_eq_getElem_cons hl, h, (List.getElem?_eq_some_iff.1 hx).2, (List.getElem?_eq_some_iff.1 hy).2]
theorem Top.lt {la lb : List Nat} {k x y : Nat} (h : Top la lb (k + 1)) (hx : la[k]? = some x) (hy : lb[k]? = some y) (hL : Num.Lim la) (hlt : x < y) : Num.val la < Num.val lb := by
  rw [val_at la k x hx, val_at lb k y hy, h]
  have h1 := Num.val_lt (la.take k) (hL.take k)
  have hk := (List.getElem?_eq_some_iff.1 hx).1
  rw [List.length_take, Nat.min_eq_left (by omega)] at h1
  exact cmp_at _ _ _ _ _ _ h1 hlt
theorem Top.symm {la lb : List Nat} {k : Nat} (h : Top la lb k) : Top lb la k := Eq.symm h
theorem Top.all {la lb : List Nat} (h : Top la lb 0) : la = lb := by simpa [Top] using h

set_option maxHeartbeats 1000000 in
theorem cmp_walk (va vb : Value) (la lb : List Nat) (w : World) (ha : Rd w (fun _ => True) va la) (hb : Rd w (fun _ => True) vb lb) :
    Calls Tryz.prog 74 #[va, vb] w fun e w' => e = .returned (.int .i64 (cmpI (Num.val la) (Num.val lb))) ∧ ∃ q, w' = w.drewN q := by
  obtain ⟨A, n, c, rfl, Hn, hnc, hc, HLa, hA⟩ := ha.open_
  obtain ⟨B, m, d, rfl, Hm, hmd, hd, HLb, hB⟩ := hb.open_
  clear ha hb
  go_enter Tryz.func74, Tryz.ntmps74
  go_wp2_with fail
  refine (trim_walk _ A n c la _ Hn.out.symm hnc hc hA).mono ?_
  rintro e w' ⟨⟨k1, hk1, rfl, hza, hna⟩, rfl⟩
  go_wp2_with fail
  refine (trim_walk _ B m d lb _ Hm.out.symm hmd hd hB).mono ?_
  rintro e w' ⟨⟨k2, hk2, rfl, hzb, hnb⟩, rfl⟩
  have Hva := Lib.hid (hza.val (by have := Hn.out; omega))
  have Hvb := Lib.hid (hzb.val (by have := Hm.out; omega))
  have La : Hid ((la.take k1).length = k1) := by show _ = _; have := Hn.out; rw [List.length_take]; omega
  have Lb : Hid ((lb.take k2).length = k2) := by show _ = _; have := Hm.out; rw [List.length_take]; omega
  by_cases hne : k1 = k2
  · subst hne
    have hbb : ((k1 : Int) != k1) = false := by simp
    obtain ⟨la1, hla1⟩ : ∃ l, l = la.take k1 := ⟨_, rfl⟩
    obtain ⟨lb1, hlb1⟩ : ∃ l, l = lb.take k1 := ⟨_, rfl⟩
    have hA1 := hA.take k1
    have hB1 := hB.take k1
    have HLa1 : Hid (Num.Lim la1) := by rw [hla1]; exact HLa.out.take _
    have HLb1 : Hid (Num.Lim lb1) := by rw [hlb1]; exact HLb.out.take _
    rw [← hla1] at La Hva hA1
    rw [← hlb1] at Lb Hvb hB1
    have ha0 : Num.Nrm la1 := by rw [hla1]; exact hna
    clear hla1 hlb1 hA hB hna hnb hza hzb
    go_wp2
    go_loopw [5] (fun i wr => ∃ k : Nat, k ≤ k1 ∧ i = .int .i64 ((k : Int) - 1) ∧ Top la1 lb1 k ∧ ∃ q, wr = w.drewN q) (fun i _ => (intOf i + 1).toNat)
    case atStart => exact ⟨k1, Nat.le_refl _, rfl, Top.start _ _ _ La.out Lb.out, 0, rfl⟩
    case round =>
      obtain ⟨k, hk, rfl, htop, q, rfl⟩ := hrel
      by_cases h0 : k = 0
      · have hk0 : ¬ 0 ≤ (k : Int) - 1 := by omega
        clear h0
        go_wp2
        go_ret
        refine ⟨ret_i64 ?_, q, rfl⟩
        obtain rfl : k = 0 := by omega
        rw [cmpI_eq]
        rw [← Hva.out, ← Hvb.out, htop.all]
      · have hk0 : 0 ≤ (k : Int) - 1 := by omega
        have hkp : 0 < k := by omega
        have hkt : ((k : Int) - 1).toNat = k - 1 := by omega
        have hkl : (k : Int) - 1 < (k1 : Int) := by omega
        obtain ⟨g, off, rfl, _, hcs⟩ := hA1 (by have := La.out; omega)
        obtain ⟨g', off', rfl, _, hct⟩ := hB1 (by have := Lb.out; omega)
        obtain ⟨x, hx⟩ : ∃ x, la1[k - 1]? = some x := ⟨_, List.getElem?_eq_getElem (by have := La.out; omega)⟩
        obtain ⟨y, hy⟩ : ∃ y, lb1[k - 1]? = some y := ⟨_, List.getElem?_eq_getElem (by have := Lb.out; omega)⟩
        have hcx := hcs _ _ hx
        have hcy := hct _ _ hy
        have Hx := Lib.hid hx
        have Hy := Lib.hid hy
        have Ht : Hid (Top la1 lb1 (k - 1 + 1)) := by show Top _ _ _; rw [show k - 1 + 1 = k from by omega]; exact htop
        clear hx hy hcs hct hA1 hB1 h0 htop
        by_cases hxy : x = y
        · subst hxy
          have hbn : ((x : Int) != x) = false := by simp
          go_wp2_with fail
          go_quiet (fail)
          go_wp2
          go_roundw
          case rel => exact ⟨k - 1, by omega, by go_num, Ht.out.step Hx.out Hy.out, _, rfl⟩
          case measure => simp [intOf]; omega
        · have hbn : ((x : Int) != y) = true := by simp; omega
          go_wp2_with fail
          go_quiet (fail)
          go_wp2_with fail
          go_quiet ((go_at_call 101; exact quiet_q (fun W => sign_any _ W)))
          go_wp2
          go_ret
          refine ⟨ret_i64 ?_, by simp only [World.drewN_drewN]; exact ⟨_, rfl⟩⟩
          rcases Nat.lt_or_ge x y with hlt | hge
          · rw [signI_false (by simp; omega), cmpI_lt]
            rw [← Hva.out, ← Hvb.out]
            exact Ht.out.lt Hx.out Hy.out HLa1.out hlt
          · rw [signI_true (by simp; omega), cmpI_gt]
            rw [← Hva.out, ← Hvb.out]
            exact Ht.out.symm.lt Hy.out Hx.out HLb1.out (by omega)
  · have hbb : ((k1 : Int) != k2) = true := by simp; omega
    go_wp2_with fail
    refine (sign_any _ _).mono ?_
    rintro e w' ⟨rfl, rfl⟩
    go_wp2
    go_ret
    refine ⟨ret_i64 ?_, 0, rfl⟩
    rcases Nat.lt_or_ge k1 k2 with hlt | hge
    · rw [signI_false (by simp; omega), cmpI_lt]
      rw [← Hva.out, ← Hvb.out]
      exact Num.Nrm.lt_of_length (HLa.out.take _) hnb (by have := La.out; have := Lb.out; omega)
    · rw [signI_true (by simp; omega), cmpI_gt]
      rw [← Hva.out, ← Hvb.out]
      exact Num.Nrm.lt_of_length (HLb.out.take _) hna (by have := La.out; have := Lb.out; omega)
end Go.Proofs.YtohlilgnognmgaaGreatDoor
/-
  The walk of natural.Sub: the difference and true, or nil and false.
-/
namespace Go.Proofs.YtohlilgnognmgaaGreatDoor
open Go.RowKit

theorem below_drewN {B : Nat} {a w : World} (h : Below B a w) (n : Nat) : Below B a (w.drewN n) := ⟨h.os, h.tape, h.output, h.size, h.block⟩
theorem Cel.drewN {w : World} {S : Nat → Prop} {A : Option Addr} {l : List Nat} (h : Cel w S A l) (n : Nat) : Cel (w.drewN n) S A l := h

set_option maxHeartbeats 1000000 in
theorem sub_lt (va vb : Value) (la lb : List Nat) (w : World) (ha : Rd w (fun _ => True) va la) (hb : Rd w (fun _ => True) vb lb) (hlt : Num.val la < Num.val lb) :
    Calls Tryz.prog 82 #[va, vb] w fun e w' => e = .returned (.tuple #[.slice none 0 0, .bool false]) ∧ ∃ q, w' = w.drewN q := by
  have Hc := Lib.hid (cmpI_lt hlt)
  go_enter Tryz.func82, Tryz.ntmps82
  go_wp2_with fail
  refine (cmp_walk va vb la lb _ ha hb).mono ?_
  rintro e w' ⟨he, q, rfl⟩
  rw [Hc.out] at he
  subst he
  go_wp2
  go_ret2
  exact ⟨rfl, q, rfl⟩

/-- The loop of Sub: la - lb with a borrow. -/
def SubInv (e : TypeId) (g k br : Nat) (l lb : List Nat) (w wr : World) : Prop :=
  ∃ r, r.length = k ∧ Num.Lim r ∧ Num.val r + Num.val (lb.take k) = Num.val (l.take k) + Num.K ^ k * br ∧ Wr e g 0 l r w wr
theorem SubInv.start {e : TypeId} {g : Nat} {l lb : List Nat} {w : World} (h : Own e w g l) : SubInv e g 0 0 l lb w w := ⟨[], rfl, Num.Lim.nil, by simp [Num.val], Wr.start h⟩
section
variable {e : TypeId} {g k br : Nat} {l lb : List Nat} {w wr : World}
theorem SubInv.cell (h : SubInv e g k br l lb w wr) {x : Nat} (hx : l[k]? = some x) : wr.cell? ⟨g, k, none⟩ = some (.int .u32 (x : Int)) := by
  obtain ⟨r, hk, _, _, hw⟩ := h
  have := hw.cell hk (x := x) (by rw [Nat.zero_add]; exact hx)
  rwa [Nat.zero_add] at this
theorem SubInv.frozen (h : SubInv e g k br l lb w wr) (i : Nat) : wr.frozen? ⟨g, i, none⟩ = false := by
  obtain ⟨r, hk, _, _, hw⟩ := h
  exact hw.1.frozen i
theorem SubInv.other (h : SubInv e g k br l lb w wr) {g' o : Nat} (hne : g' ≠ g) {u : Value} (hc : w.cell? ⟨g', o, none⟩ = some u) : wr.cell? ⟨g', o, none⟩ = some u := by
  obtain ⟨r, hk, _, _, hw⟩ := h
  exact only_cell hw.2 hne hc
theorem sub_num (R B L P K br x y d br' : Nat) (hv : R + B = L + P * br) (hd : d + br + y = x + K * br') : R + P * d + (B + P * y) = L + P * x + P * K * br' := by
  have := congrArg (P * ·) hd
  simp only [Nat.mul_add, ← Nat.mul_assoc] at this
  omega
theorem SubInv.step (h : SubInv e g k br l lb w wr) {x : Nat} (hx : l[k]? = some x) (y : Nat) (hy : Num.val (lb.take (k + 1)) = Num.val (lb.take k) + Num.K ^ k * y) (d br' : Nat) (hd : d + br + y = x + Num.K * br') (hdK : d < Num.K) (z : Int) (hz : z = (d : Int)) :
    SubInv e g (k + 1) br' l lb w (wr.setCell ⟨g, k, none⟩ (.int .u32 z)) := by
  obtain ⟨r, hk, hr, hv, hw⟩ := h
  have hlt := (List.getElem?_eq_some_iff.1 hx).1
  have hw' := hw.step hk (by omega) d z hz
  rw [Nat.zero_add] at hw'
  refine ⟨r ++ [d], by simp [hk], hr.append (Num.Lim.cons hdK Num.Lim.nil), ?_, hw'⟩
  rw [Num.val_snoc, hk, val_take_succ l k x hx, hy, Nat.pow_succ]
  exact sub_num _ _ _ _ _ _ _ _ _ _ hv hd
end

theorem sub_word (x br y : Nat) (hx : x < 4294967296) (hb : br ≤ 1) (hy : y < 4294967296) :
    ∃ d br' : Nat, br' ≤ 1 ∧ IntKind.u64.wrap (IntKind.u64.wrap ((x : Int) - br) - y) / 9223372036854775808 = (br' : Int) ∧ IntKind.u64.wrap (IntKind.u64.wrap ((x : Int) - br) - y) % 4294967296 = (d : Int) ∧ d + br + y = x + Num.K * br' ∧ d < Num.K := by
  simp only [IntKind.wrap_u64, Num.K_eq]
  rcases Nat.lt_or_ge x (br + y) with h | h
  · exact ⟨x + 4294967296 - br - y, 1, by omega, by omega, by omega, by omega, by omega⟩
  · exact ⟨x - br - y, 0, by omega, by omega, by omega, by omega, by omega⟩
theorem sub_word0 (x br : Nat) (hx : x < 4294967296) (hb : br ≤ 1) :
    ∃ d br' : Nat, br' ≤ 1 ∧ IntKind.u64.wrap ((x : Int) - br) / 9223372036854775808 = (br' : Int) ∧ IntKind.u64.wrap ((x : Int) - br) % 4294967296 = (d : Int) ∧ d + br + 0 = x + Num.K * br' ∧ d < Num.K := by
  simp only [IntKind.wrap_u64, Num.K_eq]
  rcases Nat.lt_or_ge x br with h | h
  · exact ⟨x + 4294967296 - br, 1, by omega, by omega, by omega, by omega, by omega⟩
  · exact ⟨x - br, 0, by omega, by omega, by omega, by omega, by omega⟩
theorem int_u64 {a b : Int} (h : a = b) : Value.int .u64 a = .int .u64 b := by rw [h]
theorem no_borrow (P A B r br : Nat) (h : r + B = A + P * br) (hAB : B ≤ A) (hr : r < P) : r = A - B := by
  rcases Nat.lt_or_ge br 1 with h1 | h1
  · obtain rfl : br = 0 := by omega
    omega
  · have := Nat.mul_le_mul_left P h1
    omega
theorem SubInv.done {e : TypeId} {g n br : Nat} {l lb : List Nat} {w wr : World} (h : SubInv e g n br l lb w wr) (hn : l.length = n) (hle : Num.val lb ≤ Num.val l) :
    ∃ r, r.length = n ∧ Num.Lim r ∧ Num.val r = Num.val l - Num.val (lb.take n) ∧ Own e wr g r ∧ w.grownBy wr (some g) := by
  obtain ⟨r, hr, hL, hv, ho, hg⟩ := h
  rw [List.take_of_length_le (l := l) (by omega)] at hv
  have hle2 : Num.val (lb.take n) ≤ Num.val lb := by
    rcases Nat.lt_or_ge n lb.length with h | h
    · rw [Num.val_split lb n (by omega)]; omega
    · rw [List.take_of_length_le h]; exact Nat.le_refl _
  have hrl := Num.val_lt r hL
  rw [hr] at hrl
  exact ⟨r, hr, hL, no_borrow _ _ _ _ _ hv (by omega) hrl, by rw [mid_whole _ _ (by omega)] at ho; exact ho, hg⟩
theorem val_take_small (lb : List Nat) (n : Nat) (h : Num.val lb < Num.K ^ n) : Num.val (lb.take n) = Num.val lb := by
  rcases Nat.lt_or_ge n lb.length with hl | hl
  · have e := Num.val_split lb n (by omega)
    have h0 : Num.val (lb.drop n) = 0 := by
      rcases Nat.eq_zero_or_pos (Num.val (lb.drop n)) with h0 | h0
      · exact h0
      · have := Nat.mul_le_mul_left (Num.K ^ n) h0
        omega
    rw [h0] at e
    omega
  · rw [List.take_of_length_le hl]

set_option maxHeartbeats 2000000 in
theorem sub_ge (va vb : Value) (la lb : List Nat) (w : World) (ha : Rd w (fun _ => True) va la) (hb : Rd w (fun _ => True) vb lb) (hla : la.length ≤ 10000000) (hge : Num.val lb ≤ Num.val la) :
    Calls Tryz.prog 82 #[va, vb] w fun e w' => ∃ v, e = .returned (.tuple #[v, .bool true]) ∧ Res w w' v (Num.val la - Num.val lb) := by
  have Hge := Lib.hid hge
  have Hc : Hid (cmpI (Num.val la) (Num.val lb) = 0 ∨ cmpI (Num.val la) (Num.val lb) = 1) := by
    rcases Nat.lt_or_ge (Num.val lb) (Num.val la) with h | h
    · exact .inr (cmpI_gt h)
    · exact .inl (cmpI_eq (by omega))
  have ha0 := ha
  have hb0 := hb
  obtain ⟨A, n, c, rfl, Hn, hnc, hc, HLa, hA⟩ := ha.open_
  obtain ⟨B, m, d, rfl, Hm, hmd, hd, HLb, hB⟩ := hb.open_
  have hn : n ≤ 10000000 := by have := Hn.out; omega
  clear hla ha hb hge
  obtain ⟨ci, hci⟩ : ∃ ci, ci = cmpI (Num.val la) (Num.val lb) := ⟨_, rfl⟩
  have hci0 : 0 ≤ ci := by rcases Hc.out with h | h <;> rw [hci, h] <;> omega
  have Hci := Lib.hid hci
  clear hci
  go_enter Tryz.func82, Tryz.ntmps82
  go_wp2_with fail
  refine (cmp_walk _ _ la lb _ ha0 hb0).mono ?_
  rintro e w' ⟨he, q, rfl⟩
  rw [← Hci.out] at he
  subst he
  clear ha0 hb0
  go_wp2_with fail
  refine (norm_walk _ A n c la _ Hn.out hnc hc (by omega) (hA.drewN q)).mono ?_
  rintro e w1 ⟨v, k1, hk1, rfl, ⟨g, rfl, hg, hown, hb1⟩, hza, hna⟩
  have Lk : Hid ((la.take k1).length = k1) := by show _ = _; have := Hn.out; rw [List.length_take]; omega
  rw [Lk.out]
  have HLa1 : Hid (Num.Lim (la.take k1)) := HLa.out.take k1
  have Hva := Lib.hid (hza.val (by have := Hn.out; omega))
  obtain ⟨la1, hla1⟩ : ∃ l, l = la.take k1 := ⟨_, rfl⟩
  rw [← hla1] at Lk HLa1 Hva hown
  clear hla1 hza hna
  have hB1 : Cel w1 (· ≠ g) B lb := ((hB.drewN q).below' hb1).keep (S' := fun _ => True) (fun _ _ => trivial) (fun _ _ _ => rfl) |> fun h => ((hB.drewN q).old.keep (fun i hi => by have := hi.2; intro e; rw [e] at this; exact absurd this (by omega)) (fun i o hi => hb1.cell (p := ⟨i, o, none⟩) hi.2))
  go_wp2
  go_loopw [7, 18] (fun cy i wr => ∃ k : Nat, k ≤ k1 ∧ i = .int .i64 k ∧ ∃ br : Nat, br ≤ 1 ∧ cy = .int .u64 br ∧ SubInv 45 g k br la1 lb w1 wr) (fun _ i _ => k1 - (intOf i).toNat)
  case atStart => exact ⟨0, Nat.zero_le _, rfl, 0, by omega, rfl, SubInv.start hown⟩
  case round =>
    obtain ⟨k, hk, rfl, br, hbr, rfl, hinv⟩ := hrel
    by_cases hlt : k < k1
    · obtain ⟨x, hx⟩ : ∃ x, la1[k]? = some x := ⟨_, List.getElem?_eq_getElem (by have := Lk.out; omega)⟩
      have hxb : x < 4294967296 := HLa1.out.at hx
      have hcell := hinv.cell hx
      have hfr := hinv.frozen k
      have Hx := Lib.hid hx
      clear hx
      by_cases hkm : k < m
      · obtain ⟨g', off', rfl, hg', hcb⟩ := hB1 (by have := Hm.out; omega)
        obtain ⟨y, hy⟩ : ∃ y, lb[k]? = some y := ⟨_, List.getElem?_eq_getElem (by have := Hm.out; omega)⟩
        have hyb : y < 4294967296 := HLb.out.at hy
        have hcelly := hinv.other hg' (hcb _ _ hy)
        have Hy := Lib.hid hy
        clear hy hcb
        have HS := Lib.hid (sub_word x br y hxb hbr hyb)
        go_wp2
        go_roundw
        case rel =>
          obtain ⟨d, br', h1, h2, h3, h4, h5⟩ := HS.out
          exact ⟨k + 1, by omega, by go_num, br', h1, int_u64 h2, hinv.step Hx.out y (val_take_succ _ _ _ Hy.out) d br' h4 h5 _ h3⟩
        case measure => simp [intOf]; omega
      · have hmk : m ≤ k := by omega
        clear hkm
        have HS := Lib.hid (sub_word0 x br hxb hbr)
        go_wp2
        go_roundw
        case rel =>
          obtain ⟨d, br', h1, h2, h3, h4, h5⟩ := HS.out
          exact ⟨k + 1, by omega, by go_num, br', h1, int_u64 h2, hinv.step Hx.out 0 (take_past _ _ (by have := Hm.out; omega)) d br' h4 h5 _ h3⟩
        case measure => simp [intOf]; omega
    · obtain ⟨r, hr, hLr, hvr, hown3, hgr3⟩ := hinv.done (by have := Lk.out; omega) (by rw [Hva.out]; exact Hge.out)
      have Hr := Lib.hid hr
      have Hvr := Lib.hid hvr
      clear hr hvr hinv
      have hkk : k = k1 := by omega
      have Hkk := Lib.hid hkk
      clear hkk
      go_wp2_with fail
      refine (trim_walk (fun _ => True) (some ⟨g, 0, none⟩) k1 k1 r wr (by have := Hr.out; have := Hkk.out; omega) (Nat.le_refl _) (by omega) hown3.celTop).mono ?_
      rintro e w4 ⟨⟨j, hj, rfl, hz, hnr⟩, rfl⟩
      go_wp2
      go_ret2
      have hjr : k1 = r.length := by have := Hr.out; have := Hkk.out; omega
      refine ⟨_, rfl, r.take j, hown3.rdTake _ trivial hLr j k1 (by omega) hj (by omega), hnr, ?_, ?_⟩
      · rw [hz.val (by omega), Hvr.out, val_take_small, Hva.out]
        have h1 := Num.val_lt la1 HLa1.out
        have h2 := Hge.out
        have h3 := Hva.out
        rw [Lk.out, ← Hkk.out] at h1
        omega
      · have hbq : Below w.heap.size w w1 := (below_drewN (Below.refl _ w) q).trans hb1
        exact hbq.trans ⟨hgr3.os, hgr3.tape, hgr3.output, hgr3.size, fun i hi => hgr3.block i (Nat.lt_of_lt_of_le hi hbq.size) (by intro e; injection e with e; have : w.heap.size ≤ g := hg; omega)⟩
end Go.Proofs.YtohlilgnognmgaaGreatDoor
/-
  The walks of natural.addProduct and natural.Mul.
-/
namespace Go.Proofs.YtohlilgnognmgaaGreatDoor
open Go.RowKit

/-- The loop of addProduct. -/
def ProdInv (e : TypeId) (g off k cr limb : Nat) (l lb : List Nat) (w wr : World) : Prop :=
  ∃ r, r.length = k ∧ Num.Lim r ∧ Num.val r + Num.K ^ k * cr = Num.val ((l.drop off).take k) + limb * Num.val (lb.take k) ∧ Wr e g off l r w wr
section
variable {e : TypeId} {g off k cr limb : Nat} {l lb : List Nat} {w wr : World}
theorem ProdInv.start (h : Own e w g l) : ProdInv e g off 0 0 limb l lb w w := ⟨[], rfl, Num.Lim.nil, by simp [Num.val], Wr.start h⟩
theorem ProdInv.cell (h : ProdInv e g off k cr limb l lb w wr) {x : Nat} (hx : l[off + k]? = some x) : wr.cell? ⟨g, off + k, none⟩ = some (.int .u32 (x : Int)) := by
  obtain ⟨r, hk, _, _, hw⟩ := h
  exact hw.cell hk hx
theorem ProdInv.frozen (h : ProdInv e g off k cr limb l lb w wr) (i : Nat) : wr.frozen? ⟨g, i, none⟩ = false := by
  obtain ⟨r, hk, _, _, hw⟩ := h
  exact hw.1.frozen i
theorem ProdInv.other (h : ProdInv e g off k cr limb l lb w wr) {g' o : Nat} (hne : g' ≠ g) {u : Value} (hc : w.cell? ⟨g', o, none⟩ = some u) : wr.cell? ⟨g', o, none⟩ = some u := by
  obtain ⟨r, hk, _, _, hw⟩ := h
  exact only_cell hw.2 hne hc
theorem prod_num (R P K cr L limb B x y d cr' : Nat) (hv : R + P * cr = L + limb * B) (hd : d + K * cr' = cr + (y * limb + x)) : R + P * d + P * K * cr' = L + P * x + limb * (B + P * y) := by
  have h := congrArg (P * ·) hd
  simp only [Nat.mul_add, ← Nat.mul_assoc] at h ⊢
  have e1 : P * y * limb = limb * P * y := by rw [Nat.mul_comm (P * y) limb, Nat.mul_assoc]
  omega
theorem ProdInv.step (h : ProdInv e g off k cr limb l lb w wr) {x y : Nat} (hx : l[off + k]? = some x) (hy : lb[k]? = some y) (z : Int) (hz : z = ((cr + (y * limb + x)) % 4294967296 : Nat)) :
    ProdInv e g off (k + 1) ((cr + (y * limb + x)) / 4294967296) limb l lb w (wr.setCell ⟨g, off + k, none⟩ (.int .u32 z)) := by
  obtain ⟨r, hk, hr, hv, hw⟩ := h
  have hlt := (List.getElem?_eq_some_iff.1 hx).1
  refine ⟨r ++ [(cr + (y * limb + x)) % 4294967296], by simp [hk], hr.append (Num.Lim.cons (Nat.mod_lt _ (by decide)) Num.Lim.nil), ?_, hw.step hk hlt _ z hz⟩
  rw [Num.val_snoc, hk, val_take_succ (l.drop off) k x (by rw [List.getElem?_drop]; exact hx), val_take_succ lb k y hy, Nat.pow_succ]
  exact prod_num _ _ _ _ _ _ _ _ _ _ _ hv (Nat.mod_add_div _ _)
end
/-- What addProduct leaves. -/
def ProdPost (e : TypeId) (g off n limb cr : Nat) (l lb : List Nat) (w w' : World) : Prop :=
  ∃ r, r.length = n ∧ Num.Lim r ∧ Num.val r + Num.K ^ n * cr = Num.val ((l.drop off).take n) + limb * Num.val lb ∧ Wr e g off l r w w'
theorem mul_bound (x y : Nat) (hx : x < 4294967296) (hy : y < 4294967296) : x * y ≤ 18446744065119617025 := by
  have := Nat.mul_le_mul (show x ≤ 4294967295 by omega) (show y ≤ 4294967295 by omega)
  omega

set_option maxHeartbeats 1000000 in
theorem addProduct_walk (A : Option Addr) (g off n c c' limb : Nat) (l lb : List Nat) (w : World) (hown : Own 45 w g l) (hfit : off + n ≤ l.length) (hc : n ≤ 9223372036854775807) (hb : Cel w (· ≠ g) A lb) (hm : lb.length = n) (hL : Num.Lim l) (hLb : Num.Lim lb) (hlimb : limb < 4294967296) :
    Calls Tryz.prog 104 #[.slice (some ⟨g, off, none⟩) n c, .slice A n c', .int .u32 (limb : Int)] w fun e w' => ∃ cr : Nat, cr < 4294967296 ∧ e = .returned (.int .u32 (cr : Int)) ∧ ProdPost 45 g off n limb cr l lb w w' := by
  have HL := Lib.hid hL
  have HLb := Lib.hid hLb
  have Hm := Lib.hid hm
  clear hm hL hLb
  go_enter Tryz.func104, Tryz.ntmps104
  go_wp2
  go_loopw [7, 12] (fun cy i wr => ∃ k : Nat, k ≤ n ∧ i = .int .i64 k ∧ ∃ cr : Nat, cr < 4294967296 ∧ cy = .int .u64 cr ∧ ProdInv 45 g off k cr limb l lb w wr) (fun _ i _ => n - (intOf i).toNat)
  case atStart => exact ⟨0, Nat.zero_le _, rfl, 0, by omega, rfl, ProdInv.start hown⟩
  case round =>
    obtain ⟨k, hk, rfl, cr, hcr, rfl, hinv⟩ := hrel
    by_cases hlt : k < n
    · obtain ⟨x, hx⟩ : ∃ x, l[off + k]? = some x := ⟨_, List.getElem?_eq_getElem (by omega)⟩
      have hxb : x < 4294967296 := HL.out.at hx
      have hcell := hinv.cell hx
      have hfr := hinv.frozen (off + k)
      have Hx := Lib.hid hx
      clear hx
      obtain ⟨g', off', rfl, hg', hcb⟩ := hb (by have := Hm.out; omega)
      obtain ⟨y, hy⟩ : ∃ y, lb[k]? = some y := ⟨_, List.getElem?_eq_getElem (by have := Hm.out; omega)⟩
      have hyb : y < 4294967296 := HLb.out.at hy
      have hcelly := hinv.other hg' (hcb _ _ hy)
      have Hy := Lib.hid hy
      clear hy hcb
      have hp0 : (0 : Int) ≤ (y : Int) * (limb : Int) := Int.mul_nonneg (by omega) (by omega)
      have hp1 : (y : Int) * (limb : Int) ≤ 18446744065119617025 := by have := mul_bound y limb hyb hlimb; rw [← Int.natCast_mul]; omega
      have HP := Lib.hid (Int.natCast_mul y limb)
      have HB := Lib.hid (mul_bound y limb hyb hlimb)
      go_wp2
      go_roundw
      case rel =>
        have e1 := HP.out
        have e2 := HB.out
        exact ⟨k + 1, by omega, by go_num, (cr + (y * limb + x)) / 4294967296, by omega, int_u64 (by omega), hinv.step Hx.out Hy.out _ (by omega)⟩
      case measure => simp [intOf]; omega
    · obtain rfl : k = n := by omega
      go_wp2
      go_ret
      obtain ⟨r, hk, hr, hv, hw⟩ := hinv
      refine ⟨cr, hcr, ?_, r, hk, hr, ?_, hw⟩
      · first | rfl | (congr 2; omega)
      · rw [hv, List.take_of_length_le (l := lb) (by have := Hm.out; omega)]

/-- The loop of Mul: k limbs of the first number are done. -/
def MulInv (e : TypeId) (g N k m : Nat) (la lb : List Nat) (w wr : World) : Prop :=
  ∃ l, l.length = N ∧ Num.Lim l ∧ Num.val (l.take (k + m)) = Num.val (la.take k) * Num.val lb ∧ Own e wr g l ∧ w.grownBy wr (some g)
theorem mul_num (T P R Km cr D limb A B : Nat) (h : R + Km * cr = D + limb * B) (h2 : T + P * D = A * B) : T + P * (R + Km * cr) = (A + P * limb) * B := by
  rw [h, Nat.mul_add, ← Nat.add_assoc, h2, Nat.add_mul, Nat.mul_assoc]
theorem take_mid (l r : List Nat) (k : Nat) (h : k + r.length ≤ l.length) : (mid l k r).take (k + r.length) = l.take k ++ r := by
  unfold mid
  rw [← List.append_assoc, List.take_append_of_le_length (by simp; omega), List.take_of_length_le (by simp; omega)]
theorem MulInv.step {e : TypeId} {g N k m limb cr : Nat} {la lb l : List Nat} {w wr w2 : World} (hl : l.length = N) (hL : Num.Lim l) (hv : Num.val (l.take (k + m)) = Num.val (la.take k) * Num.val lb) (hg : w.grownBy wr (some g))
    (hx : la[k]? = some limb) (hm : k + m < N) (hcr : cr < 4294967296) (h : ProdPost e g k m limb cr l lb wr w2) :
    MulInv e g N (k + 1) m la lb w (w2.setCell ⟨g, k + m, none⟩ (.int .u32 (cr : Int))) := by
  obtain ⟨r, hr, hLr, hvr, ho, hg2⟩ := h
  have hmid : (mid l k r).length = N := by rw [mid_length l k r (by omega)]; exact hl
  refine ⟨(mid l k r).set (k + m) cr, by rw [List.length_set]; exact hmid, (mid_lim hL hLr).set _ _ hcr, ?_, ho.set_ _ _, only_setCell (only_trans hg hg2) _ _⟩
  have e1 : ((mid l k r).set (k + m) cr)[k + m]? = some cr := by rw [List.getElem?_set_self (by omega)]
  have e2 : ((mid l k r).set (k + m) cr).take (k + m) = l.take k ++ r := by
    rw [List.take_set_of_le (Nat.le_refl _), ← hr]
    exact take_mid l r k (by omega)
  have hlk : (l.take k).length = k := by rw [List.length_take]; omega
  have hs : Num.val (l.take (k + m)) = Num.val (l.take k) + Num.K ^ k * Num.val ((l.drop k).take m) := by
    rw [List.take_add, Num.val_append, hlk]
  rw [show k + 1 + m = k + m + 1 from by omega, val_take_succ _ _ _ e1, e2, Num.val_append, hlk, val_take_succ la k limb hx, Nat.pow_add, Nat.add_assoc, Nat.mul_assoc, ← Nat.mul_add]
  rw [hs] at hv
  exact mul_num _ _ _ _ _ _ _ _ _ hvr hv

set_option maxHeartbeats 1000000 in
theorem mul_walk (va vb : Value) (la lb : List Nat) (w : World) (ha : Rd w (fun _ => True) va la) (hb : Rd w (fun _ => True) vb lb) (hla : la.length ≤ 10000000) (hlb : lb.length ≤ 10000000) :
    Calls Tryz.prog 79 #[va, vb] w fun e w' => ∃ v, e = .returned v ∧ Res w w' v (Num.val la * Num.val lb) := by
  obtain ⟨i0, hi, hz0, hz1, hz2⟩ := info_parts info_u32
  obtain ⟨A, n, c, rfl, Hn, hnc, hc, HLa, hA⟩ := ha.open_
  obtain ⟨B, m, d, rfl, Hm, hmd, hd, HLb, hB⟩ := hb.open_
  have hn : n ≤ 10000000 := by have := Hn.out; omega
  have hm : m ≤ 10000000 := by have := Hm.out; omega
  clear hla hlb ha hb
  go_enter Tryz.func79, Tryz.ntmps79
  go_wp2_with fail
  refine (trim_walk _ A n c la _ Hn.out.symm hnc hc hA).mono ?_
  rintro e w' ⟨⟨k1, hk1, rfl, hza, hna⟩, rfl⟩
  go_wp2_with fail
  refine (trim_walk _ B m d lb _ Hm.out.symm hmd hd hB).mono ?_
  rintro e w' ⟨⟨k2, hk2, rfl, hzb, hnb⟩, rfl⟩
  have Hva := Lib.hid (hza.val (by have := Hn.out; omega))
  have Hvb := Lib.hid (hzb.val (by have := Hm.out; omega))
  have La : Hid ((la.take k1).length = k1) := by show _ = _; have := Hn.out; rw [List.length_take]; omega
  have Lb : Hid ((lb.take k2).length = k2) := by show _ = _; have := Hm.out; rw [List.length_take]; omega
  have hA1 := hA.take k1
  have hB1 := (hB.take k2).old
  have HLa1 : Hid (Num.Lim (la.take k1)) := HLa.out.take _
  have HLb1 : Hid (Num.Lim (lb.take k2)) := HLb.out.take _
  obtain ⟨la1, hla1⟩ : ∃ l, l = la.take k1 := ⟨_, rfl⟩
  obtain ⟨lb1, hlb1⟩ : ∃ l, l = lb.take k2 := ⟨_, rfl⟩
  rw [← hla1] at La Hva hA1 HLa1
  rw [← hlb1] at Lb Hvb hB1 HLb1
  clear hla1 hlb1 hA hB hna hnb hza hzb
  go_wp2_with (at_make; refine wpList_make_u32 _ rfl (.tmp 17) (.tmp 17) 23 rfl 45 i0 Tryz.underlying23 hi hz0 hz1 hz2 .i64 .i64 _ _ (k1 + k2) rfl rfl (by omega) (by omega) (by omega) ?_; intro g w1 hg1 hown1 hb1 hs1; have Hg := Lib.hid hg1; clear hg1)
  have hA2 : Cel w1 (· ≠ g) A la1 := hA1.old.keep (fun i hi => by have := Hg.out; have := hi.2; omega) (fun i o hi => hb1.cell (p := ⟨i, o, none⟩) hi.2)
  have hB2 : Cel w1 (· ≠ g) B lb1 := hB1.keep (fun i hi => by have := Hg.out; have := hi.2; omega) (fun i o hi => hb1.cell (p := ⟨i, o, none⟩) hi.2)
  go_loopw [21] (fun i wr => ∃ k : Nat, k ≤ k1 ∧ i = .int .i64 k ∧ MulInv 45 g (k1 + k2) k k2 la1 lb1 w1 wr) (fun i _ => k1 - (intOf i).toNat)
  case atStart => exact ⟨0, Nat.zero_le _, rfl, _, by simp, Num.Lim.replicate _, by simp [Num.val, List.take_replicate, Num.val_replicate], hown1, only_refl _ _⟩
  case round =>
    obtain ⟨k, hk, rfl, l, hl, hL, hv, hown, hgr⟩ := hrel
    have Hl := Lib.hid hl
    have HL := Lib.hid hL
    have Hv := Lib.hid hv
    clear hl hL hv
    by_cases hlt : k < k1
    · obtain ⟨x, hx⟩ : ∃ x, la1[k]? = some x := ⟨_, List.getElem?_eq_getElem (by have := La.out; omega)⟩
      have hxb : x < 4294967296 := HLa1.out.at hx
      obtain ⟨g', off', rfl, hg', hca⟩ := hA2 (by have := La.out; omega)
      have hcx := only_cell hgr hg' (hca _ _ hx)
      have Hx := Lib.hid hx
      clear hx hca
      go_wp2_with fail
      refine (addProduct_walk B g k k2 _ d x l lb1 _ hown (by have := Hl.out; omega) (by omega) (hB2.only (fun _ h => h) hgr) Lb.out HL.out HLb1.out hxb).mono ?_
      rintro e w2 ⟨cr, hcr, rfl, hpost⟩
      have hcell : ∃ u, w2.cell? ⟨g, k + k2, none⟩ = some u := by
        obtain ⟨r, hr, _, _, ho, _⟩ := hpost
        have := ho.cel (k + k2) _ (List.getElem?_eq_getElem (by rw [mid_length l k r (by have := Hl.out; omega)]; have := Hl.out; omega))
        rw [Nat.zero_add] at this
        exact ⟨_, this⟩
      have hfr : w2.frozen? ⟨g, k + k2, none⟩ = false := by
        obtain ⟨r, hr, _, _, ho, _⟩ := hpost
        exact ho.frozen _
      obtain ⟨u, hu⟩ := hcell
      have hstep := MulInv.step (N := k1 + k2) Hl.out HL.out Hv.out hgr Hx.out (by omega) hcr hpost
      clear hpost hown
      go_wp2
      go_roundw
      case rel => exact ⟨k + 1, by omega, by go_num, hstep⟩
      case measure => simp [intOf]; omega
    · have hkk : k = k1 := by omega
      have Hkk := Lib.hid hkk
      clear hkk
      go_wp2_with fail
      refine (trim_walk (fun _ => True) (some ⟨g, 0, none⟩) (k1 + k2) (k1 + k2) l wr (by have := Hl.out; omega) (Nat.le_refl _) (by omega) hown.celTop).mono ?_
      rintro e w4 ⟨⟨j, hj, rfl, hz, hnr⟩, rfl⟩
      go_wp2
      go_ret
      have hll : k1 + k2 = l.length := by have := Hl.out; omega
      refine ⟨_, rfl, l.take j, hown.rdTake _ trivial HL.out j (k1 + k2) (by omega) hj (by omega), hnr, ?_, ?_⟩
      · have h1 := Hv.out
        rw [Hkk.out, List.take_of_length_le (l := l) (by omega), List.take_of_length_le (l := la1) (by have := La.out; omega)] at h1
        rw [hz.val (by omega), h1, Hva.out, Hvb.out]
      · exact hb1.trans ⟨hgr.os, hgr.tape, hgr.output, hgr.size, fun i hi => hgr.block i (Nat.lt_of_lt_of_le hi hb1.size) (by intro e; injection e with e; have := Hg.out; omega)⟩
end Go.Proofs.YtohlilgnognmgaaGreatDoor
