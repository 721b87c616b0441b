/-
  Words for slices of 32-bit limbs in memory: no program is named here. 'Cel w A l': the cells at the address A hold the limbs l.
-/
import Derived.Test.YthcoemkbdllcfaaDoorNum
import Derived.Deep.Draws
import Derived.Laws.Rows
import Derived.Laws.CopyOwn
namespace Go.Proofs.YthcoemkbdllcfaaDoor
open Go.RowKit

def Lv (x : Nat) : Value := .int .u32 (x : Int)
/-- The cells from ⟨g, off⟩ on hold the limbs l. -/
def CelAt (w : World) (g off : Nat) (l : List Nat) : Prop := ∀ (j x : Nat), l[j]? = some x → w.cell? ⟨g, off + j, none⟩ = some (.int .u32 (x : Int))
/-- The cells at A hold the limbs l; nothing is said of A where l is empty. S: where the block may lie. -/
def Cel (w : World) (S : Nat → Prop) (A : Option Addr) (l : List Nat) : Prop := 0 < l.length → ∃ g off, A = some ⟨g, off, none⟩ ∧ S g ∧ CelAt w g off l
/-- The value v is a slice that reads as the limbs l. -/
def Rd (w : World) (S : Nat → Prop) (v : Value) (l : List Nat) : Prop := ∃ A c, v = .slice A l.length c ∧ l.length ≤ c ∧ c ≤ 9223372036854775807 ∧ Num.Lim l ∧ Cel w S A l

theorem CelAt.keep {w w' : World} {g off : Nat} {l : List Nat} (h : CelAt w g off l) (k : ∀ o, w'.cell? ⟨g, o, none⟩ = w.cell? ⟨g, o, none⟩) : CelAt w' g off l := fun j x hx => (k _).trans (h j x hx)
theorem CelAt.take {w : World} {g off : Nat} {l : List Nat} (h : CelAt w g off l) (k : Nat) : CelAt w g off (l.take k) := fun j x hx => by
  rw [List.getElem?_take] at hx
  split at hx
  · exact h j x hx
  · cases hx
theorem CelAt.drop {w : World} {g off : Nat} {l : List Nat} (h : CelAt w g off l) (k : Nat) : CelAt w g (off + k) (l.drop k) := fun j x hx => by
  rw [List.getElem?_drop] at hx
  rw [Nat.add_assoc]
  exact h _ x hx
theorem Cel.keep {w w' : World} {S S' : Nat → Prop} {A : Option Addr} {l : List Nat} (h : Cel w S A l) (hS : ∀ g, S g → S' g) (k : ∀ g o, S g → w'.cell? ⟨g, o, none⟩ = w.cell? ⟨g, o, none⟩) : Cel w' S' A l := fun hl => by
  obtain ⟨g, off, e, hs, hc⟩ := h hl
  exact ⟨g, off, e, hS g hs, hc.keep (fun o => k g o hs)⟩
theorem Cel.take {w : World} {S : Nat → Prop} {A : Option Addr} {l : List Nat} (h : Cel w S A l) (k : Nat) : Cel w S A (l.take k) := fun hl => by
  obtain ⟨g, off, e, hs, hc⟩ := h (by rw [List.length_take] at hl; omega)
  exact ⟨g, off, e, hs, hc.take k⟩
theorem Cel.nil (w : World) (S : Nat → Prop) (A : Option Addr) : Cel w S A [] := fun h => by simp at h
theorem Rd.keep {w w' : World} {S S' : Nat → Prop} {v : Value} {l : List Nat} (h : Rd w S v l) (hS : ∀ g, S g → S' g) (k : ∀ g o, S g → w'.cell? ⟨g, o, none⟩ = w.cell? ⟨g, o, none⟩) : Rd w' S' v l := by
  obtain ⟨A, c, e, h1, h2, h3, h4⟩ := h
  exact ⟨A, c, e, h1, h2, h3, h4.keep hS k⟩
theorem Rd.nil (w : World) (S : Nat → Prop) : Rd w S (.slice none 0 0) [] := ⟨none, 0, rfl, Nat.le_refl _, by omega, Num.Lim.nil, Cel.nil _ _ _⟩
theorem Rd.below {w w' : World} {S : Nat → Prop} {v : Value} {l : List Nat} (h : Rd w S v l) (hb : Below w.heap.size w w') : Rd w' S v l := by
  obtain ⟨A, c, e, h1, h2, h3, h4⟩ := h
  refine ⟨A, c, e, h1, h2, h3, fun hl => ?_⟩
  obtain ⟨g, off, e, hs, hc⟩ := h4 hl
  exact ⟨g, off, e, hs, fun j x hx => by
    have := hc j x hx
    rw [hb.cell (World.block_lt_of_cell? w _ this)]
    exact this⟩
theorem Cel.below' {w w' : World} {S : Nat → Prop} {A : Option Addr} {l : List Nat} (h : Cel w S A l) (hb : Below w.heap.size w w') : Cel w' S A l := fun hl => by
  obtain ⟨g, off, e, hs, hc⟩ := h hl
  exact ⟨g, off, e, hs, fun j x hx => by
    have := hc j x hx
    rw [hb.cell (World.block_lt_of_cell? w _ this)]
    exact this⟩
theorem Rd.old {w : World} {S : Nat → Prop} {v : Value} {l : List Nat} (h : Rd w S v l) : Rd w (fun g => S g ∧ g < w.heap.size) v l := by
  obtain ⟨A, c, e, h1, h2, h3, h4⟩ := h
  refine ⟨A, c, e, h1, h2, h3, fun hl => ?_⟩
  obtain ⟨g, off, e, hs, hc⟩ := h4 hl
  refine ⟨g, off, e, ⟨hs, ?_⟩, hc⟩
  obtain ⟨x, hx⟩ : ∃ x, l[0]? = some x := ⟨_, List.getElem?_eq_getElem hl⟩
  exact World.block_lt_of_cell? w _ (hc 0 x hx)
theorem Rd.mono {w : World} {S S' : Nat → Prop} {v : Value} {l : List Nat} (h : Rd w S v l) (hS : ∀ g, S g → S' g) : Rd w S' v l := h.keep hS (fun _ _ _ => rfl)

/-- Block g is just the limbs l, none frozen. -/
def Own (e : TypeId) (w : World) (g : Nat) (l : List Nat) : Prop := w.heap[g]? = some (.cells (l.map Lv).toArray e (0, 0))
section
variable {e : TypeId} {w w' : World} {g : Nat} {l : List Nat}
theorem Own.lt (h : Own e w g l) : g < w.heap.size := by
  rcases Nat.lt_or_ge g w.heap.size with hlt | hge
  · exact hlt
  · unfold Own at h; rw [Array.getElem?_eq_none hge] at h; cases h
theorem Own.cel (h : Own e w g l) : CelAt w g 0 l := fun j x hx => by
  rw [Nat.zero_add, cell_of_row w g j _ e (0, 0) h]
  simp [hx, Lv]
theorem Own.celAt (h : Own e w g l) (off : Nat) : CelAt w g off (l.drop off) := by
  have := h.cel.drop off
  rwa [Nat.zero_add] at this
theorem Own.frozen (h : Own e w g l) (i : Nat) : w.frozen? ⟨g, i, none⟩ = false := frozen_of_row w g i _ e h
theorem Own.drew (h : Own e w g l) : Own e w.drew g l := h
theorem Own.drewN (h : Own e w g l) (n : Nat) : Own e (w.drewN n) g l := h
theorem Own.alloc (h : Own e w g l) (o : Obj) : Own e (w.alloc o) g l := (Below.heap_alloc w o g h.lt).trans h
theorem Own.set_ (h : Own e w g l) (i x : Nat) : Own e (w.setCell ⟨g, i, none⟩ (.int .u32 (x : Int))) g (l.set i x) := by
  unfold Own at h ⊢
  simp [World.setCell, Array.getElem?_modify, h]
  rfl
theorem Own.below {B : Nat} (h : Own e w g l) (hb : Below B w w') (hg : g < B) : Own e w' g l := (hb.block g hg).trans h
theorem Own.grown {row : Option Nat} (h : Own e w g l) (hb : w.grownBy w' row) (hg : some g ≠ row) : Own e w' g l := (hb.block g h.lt hg).trans h
theorem Own.rd (h : Own e w g l) (S : Nat → Prop) (hS : S g) (hl : Num.Lim l) (hm : l.length ≤ 9223372036854775807) : Rd w S (.slice (some ⟨g, 0, none⟩) l.length l.length) l :=
  ⟨_, _, rfl, Nat.le_refl _, hm, hl, fun _ => ⟨g, 0, rfl, hS, h.cel⟩⟩
theorem Own.rdTake (h : Own e w g l) (S : Nat → Prop) (hS : S g) (hl : Num.Lim l) (k c : Nat) (hk : k ≤ l.length) (hc : k ≤ c) (hm : c ≤ 9223372036854775807) : Rd w S (.slice (some ⟨g, 0, none⟩) k c) (l.take k) := by
  have e1 : (l.take k).length = k := by rw [List.length_take]; omega
  exact ⟨_, c, by rw [e1], by omega, hm, hl.take k, fun _ => ⟨g, 0, rfl, hS, h.cel.take k⟩⟩
theorem Own.of_row {base n : Nat} {xs : List Value} (h : w.ownsRow base e 1 (.slice (some ⟨g, 0, none⟩) n n) n xs) (hx : xs = l.map Lv) : Own e w g l := by
  rcases h.2 with ⟨h1, _⟩ | ⟨g', cap, cur, h1, _, hh, _, _, hs, ht⟩
  · simp at h1
  · simp only [Value.slice.injEq, Option.some.injEq, Addr.mk.injEq, and_true, true_and] at h1
    obtain ⟨rfl, rfl⟩ := h1
    have : cur.toList = xs := by
      rw [← ht, List.take_of_length_le]
      simp [hs]
    unfold Own
    rw [hh, ← hx, ← this]
theorem Own.row (h : Own e w g l) (base : Nat) (hb : base ≤ g) (hm : l.length ≤ maxLen) : w.ownsRow base e 1 (.slice (some ⟨g, 0, none⟩) l.length l.length) l.length (l.map Lv) :=
  ⟨by simp, .inr ⟨g, l.length, _, rfl, hb, h, Nat.le_refl _, hm, by simp, by rw [Nat.mul_one]; exact List.take_of_length_le (by simp)⟩⟩
end

/-- A block with its part from off on, k limbs long, replaced by r. -/
def mid (l : List Nat) (off : Nat) (r : List Nat) : List Nat := l.take off ++ (r ++ l.drop (off + r.length))
theorem mid_nil (l : List Nat) (off : Nat) : mid l off [] = l := by simp [mid]
theorem mid_length (l : List Nat) (off : Nat) (r : List Nat) (h : off + r.length ≤ l.length) : (mid l off r).length = l.length := by simp [mid]; omega
theorem mid_at (l : List Nat) (off : Nat) (r : List Nat) (h : off ≤ l.length) (j : Nat) (hj : r.length ≤ j) : (mid l off r)[off + j]? = l[off + j]? := by
  unfold mid
  rw [List.getElem?_append_right (by simp; omega), List.getElem?_append_right (by simp; omega), List.getElem?_drop]
  congr 1
  simp
  omega
theorem mid_in (l : List Nat) (off : Nat) (r : List Nat) (h : off ≤ l.length) (j : Nat) (hj : j < r.length) : (mid l off r)[off + j]? = r[j]? := by
  unfold mid
  rw [List.getElem?_append_right (by simp; omega), List.getElem?_append_left (by simp; omega)]
  congr 1
  simp
  omega
theorem mid_set (l : List Nat) (off : Nat) (r : List Nat) (x : Nat) (h : off + r.length < l.length) : (mid l off r).set (off + r.length) x = mid l off (r ++ [x]) := by
  have e1 : (l.take off).length = off := by simp; omega
  have e2 : l.drop (off + r.length) = l[off + r.length] :: l.drop (off + r.length + 1) := List.drop_eq_getElem_cons h
  unfold mid
  rw [List.set_append_right _ _ (by omega), e1, List.set_append_right _ _ (by omega), e2]
  simp [Nat.add_assoc]
theorem mid_lim {l : List Nat} {off : Nat} {r : List Nat} (hl : Num.Lim l) (hr : Num.Lim r) : Num.Lim (mid l off r) := (hl.take _).append (hr.append (hl.drop _))

theorem only_setCell {a w : World} {g : Nat} (h : a.grownBy w (some g)) (o : Nat) (u : Value) : a.grownBy (w.setCell ⟨g, o, none⟩ u) (some g) :=
  ⟨h.os, h.tape, h.output, by simpa [World.setCell] using h.size, fun i hi hne => (Below.heap_setCell w ⟨g, o, none⟩ u i (by rintro rfl; exact hne rfl)).trans (h.block i hi hne)⟩
theorem only_refl (w : World) (r : Option Nat) : w.grownBy w r := ⟨rfl, rfl, rfl, Nat.le_refl _, fun _ _ _ => rfl⟩
theorem only_trans {a b c : World} {r : Option Nat} (h : a.grownBy b r) (k : b.grownBy c r) : a.grownBy c r :=
  ⟨k.os.trans h.os, k.tape.trans h.tape, k.output.trans h.output, Nat.le_trans h.size k.size, fun i hi hne => (k.block i (Nat.lt_of_lt_of_le hi h.size) hne).trans (h.block i hi hne)⟩
theorem only_drewN {a w : World} {row : Option Nat} (h : a.grownBy w row) (n : Nat) : a.grownBy (w.drewN n) row := ⟨h.os, h.tape, h.output, h.size, h.block⟩
theorem only_cell {w w' : World} {g g' o : Nat} (h : w.grownBy w' (some g)) (hne : g' ≠ g) {u : Value} (hc : w.cell? ⟨g', o, none⟩ = some u) : w'.cell? ⟨g', o, none⟩ = some u :=
  h.cell hc (by simpa using hne)
theorem Cel.only {w w' : World} {S : Nat → Prop} {A : Option Addr} {l : List Nat} {g : Nat} (h : Cel w S A l) (hS : ∀ i, S i → i ≠ g) (hb : w.grownBy w' (some g)) : Cel w' S A l := fun hl => by
  obtain ⟨g', off, e, hs, hc⟩ := h hl
  exact ⟨g', off, e, hs, fun j x hx => only_cell hb (hS _ hs) (hc j x hx)⟩

/-- What a loop that writes the limbs of a part one behind the other keeps: k limbs r are written. -/
def Wr (e : TypeId) (g off : Nat) (l r : List Nat) (w wr : World) : Prop := Own e wr g (mid l off r) ∧ w.grownBy wr (some g)
theorem Wr.start {e : TypeId} {g off : Nat} {l : List Nat} {w : World} (h : Own e w g l) : Wr e g off l [] w w := ⟨by rw [mid_nil]; exact h, only_refl _ _⟩
theorem Wr.cell {e : TypeId} {g off : Nat} {l r : List Nat} {w wr : World} (h : Wr e g off l r w wr) {k x : Nat} (hk : r.length = k) (hx : l[off + k]? = some x) : wr.cell? ⟨g, off + k, none⟩ = some (.int .u32 (x : Int)) := by
  have hlt := (List.getElem?_eq_some_iff.1 hx).1
  have := h.1.cel (off + k) x (by rw [mid_at l off r (by omega) k (by omega)]; exact hx)
  rwa [Nat.zero_add] at this
theorem Wr.step {e : TypeId} {g off : Nat} {l r : List Nat} {w wr : World} (h : Wr e g off l r w wr) {k : Nat} (hk : r.length = k) (hlt : off + k < l.length) (x : Nat) (z : Int) (hz : z = (x : Int)) : Wr e g off l (r ++ [x]) w (wr.setCell ⟨g, off + k, none⟩ (.int .u32 z)) := by
  subst hk
  subst hz
  exact ⟨by rw [← mid_set l off r x hlt]; exact h.1.set_ _ _, only_setCell h.2 _ _⟩

/-- The loop of addInto. -/
def AddInv (e : TypeId) (g off k cr : Nat) (l lb : List Nat) (w wr : World) : Prop :=
  ∃ r, r.length = k ∧ Num.Lim r ∧ Num.val r + Num.K ^ k * cr = Num.val ((l.drop off).take k) + Num.val (lb.take k) ∧ Wr e g off l r w wr
theorem AddInv.start {e : TypeId} {g off : Nat} {l lb : List Nat} {w : World} (h : Own e w g l) : AddInv e g off 0 0 l lb w w := ⟨[], rfl, Num.Lim.nil, by simp [Num.val], Wr.start h⟩
section
variable {e : TypeId} {g off k cr : Nat} {l lb : List Nat} {w wr : World}
theorem AddInv.cell (h : AddInv e g off k cr l lb w wr) {x : Nat} (hx : l[off + k]? = some x) : wr.cell? ⟨g, off + k, none⟩ = some (.int .u32 (x : Int)) := by
  obtain ⟨r, hk, _, _, hw⟩ := h
  exact hw.cell hk hx
theorem AddInv.frozen (h : AddInv e g off k cr l lb w wr) (i : Nat) : wr.frozen? ⟨g, i, none⟩ = false := by
  obtain ⟨r, hk, _, _, hw⟩ := h
  exact hw.1.frozen i
theorem AddInv.other (h : AddInv e g off k cr l lb w wr) {g' o : Nat} (hne : g' ≠ g) {u : Value} (hc : w.cell? ⟨g', o, none⟩ = some u) : wr.cell? ⟨g', o, none⟩ = some u := by
  obtain ⟨r, hk, _, _, hw⟩ := h
  exact only_cell hw.2 hne hc
theorem val_take_succ (l : List Nat) (k x : Nat) (hx : l[k]? = some x) : Num.val (l.take (k + 1)) = Num.val (l.take k) + Num.K ^ k * x := by
  have hk := (List.getElem?_eq_some_iff.1 hx).1
  rw [List.take_add_one, hx]
  simp only [Option.toList]
  rw [Num.val_snoc, List.length_take, Nat.min_eq_left (by omega)]
theorem AddInv.step (h : AddInv e g off k cr l lb w wr) {x : Nat} (hx : l[off + k]? = some x) (y : Nat) (hy : Num.val (lb.take (k + 1)) = Num.val (lb.take k) + Num.K ^ k * y) (z : Int) (hz : z = ((cr + x + y) % 4294967296 : Nat)) :
    AddInv e g off (k + 1) ((cr + x + y) / 4294967296) l lb w (wr.setCell ⟨g, off + k, none⟩ (.int .u32 z)) := by
  obtain ⟨r, hk, hr, hv, hw⟩ := h
  have hlt := (List.getElem?_eq_some_iff.1 hx).1
  refine ⟨r ++ [(cr + x + y) % 4294967296], by simp [hk], hr.append (Num.Lim.cons (Nat.mod_lt _ (by decide)) Num.Lim.nil), ?_, hw.step hk hlt _ z hz⟩
  rw [Num.val_snoc, hk, val_take_succ (l.drop off) k x (by rw [List.getElem?_drop]; exact hx), hy, Nat.pow_succ]
  have hd : (cr + x + y) % 4294967296 + Num.K * ((cr + x + y) / 4294967296) = cr + x + y := Nat.mod_add_div _ _
  have := congrArg (Num.K ^ k * ·) hd
  simp only [Nat.mul_add, ← Nat.mul_assoc] at this ⊢
  omega
theorem take_past (lb : List Nat) (k : Nat) (h : lb.length ≤ k) : Num.val (lb.take (k + 1)) = Num.val (lb.take k) + Num.K ^ k * 0 := by
  rw [List.take_of_length_le (by omega), List.take_of_length_le h]; simp
end
/-- What addInto leaves. -/
def AddPost (e : TypeId) (g off n : Nat) (l lb : List Nat) (w w' : World) : Prop :=
  ∃ r, r.length = n ∧ Num.Lim r ∧ (∃ cr, cr ≤ 1 ∧ Num.val r + Num.K ^ n * cr = Num.val ((l.drop off).take n) + Num.val lb) ∧ Wr e g off l r w w'
theorem AddInv.done {e : TypeId} {g off n cr : Nat} {l lb : List Nat} {w wr : World} (h : AddInv e g off n cr l lb w wr) (hc : cr ≤ 1) (hm : lb.length ≤ n) : AddPost e g off n l lb w wr := by
  obtain ⟨r, hk, hr, hv, hw⟩ := h
  exact ⟨r, hk, hr, ⟨cr, hc, by rw [hv, List.take_of_length_le hm]⟩, hw⟩

theorem mid_whole (l r : List Nat) (h : r.length = l.length) : mid l 0 r = r := by simp [mid, h]
theorem AddPost.fin {e : TypeId} {g n : Nat} {la lb : List Nat} {w w' : World} (h : AddPost e g 0 (n + 1) (la ++ (List.replicate (n + 1) 0).drop n) lb w w') (ha : la.length = n) (hb : lb.length ≤ n) (hLa : Num.Lim la) (hLb : Num.Lim lb) :
    ∃ r, r.length = n + 1 ∧ Num.Lim r ∧ Num.val r = Num.val la + Num.val lb ∧ Own e w' g r ∧ w.grownBy w' (some g) := by
  obtain ⟨r, hr, hL, ⟨cr, hcr, hv⟩, how, hg⟩ := h
  have e1 : (la ++ (List.replicate (n + 1) 0).drop n).length = n + 1 := by simp [ha]
  refine ⟨r, hr, hL, ?_, by rw [mid_whole _ _ (by omega)] at how; exact how, hg⟩
  rw [List.drop_zero, List.take_of_length_le (by omega), Num.val_append, List.drop_replicate, Num.val_replicate, Nat.mul_zero, Nat.add_zero] at hv
  have h1 := Num.val_lt la hLa
  have h2 := Nat.lt_of_lt_of_le (Num.val_lt lb hLb) (Nat.pow_le_pow_right Num.K_pos hb)
  rw [ha] at h1
  rw [Nat.pow_succ] at hv
  exact Num.no_carry _ _ _ _ _ _ Num.K_two hv h1 h2 hcr
theorem Rd.open_ {w : World} {S : Nat → Prop} {v : Value} {l : List Nat} (h : Rd w S v l) : ∃ A n c, v = .slice A n c ∧ Hid (l.length = n) ∧ n ≤ c ∧ c ≤ 9223372036854775807 ∧ Hid (Num.Lim l) ∧ Cel w S A l := by
  obtain ⟨A, c, e, h1, h2, h3, h4⟩ := h
  exact ⟨A, _, c, e, rfl, h1, h2, h3, h4⟩
theorem Cel.old {w : World} {S : Nat → Prop} {A : Option Addr} {l : List Nat} (h : Cel w S A l) : Cel w (fun g => S g ∧ g < w.heap.size) A l := fun hl => by
  obtain ⟨g, off, e, hs, hc⟩ := h hl
  refine ⟨g, off, e, ⟨hs, ?_⟩, hc⟩
  obtain ⟨x, hx⟩ : ∃ x, l[0]? = some x := ⟨_, List.getElem?_eq_getElem hl⟩
  exact World.block_lt_of_cell? w _ (hc 0 x hx)
theorem Cel.mono {w : World} {S S' : Nat → Prop} {A : Option Addr} {l : List Nat} (h : Cel w S A l) (hS : ∀ g, S g → S' g) : Cel w S' A l := h.keep hS (fun _ _ _ => rfl)
theorem Own.celTop {e : TypeId} {w : World} {g : Nat} {l : List Nat} (h : Own e w g l) : Cel w (fun _ => True) (some ⟨g, 0, none⟩) l := fun _ => ⟨g, 0, rfl, trivial, h.cel⟩

/-- make([]uint32, n) -/
theorem wpList_make_u32 {P : Program} (w : World) {ops : Array Oper} {rest : List Oper} {o : Oper} {a : Act} {Q : Exit → Act → World → Prop}
    (hg : o.guard = none) (l c : Operand) (t : TypeId) (hop : o.op = Op.makeSlice t l c) (e : TypeId) (i : TypeInfo) (h1 : P.underlying t = some (.slice e)) (h2 : P.info? e = some i) (h3 : i.zero = some (.int .u32 0)) (h4 : i.size = 1) (h5 : i.bytes = 4)
    (kl kc : IntKind) (L C : Int) (n : Nat) (hl : a.eval l = .int kl L) (hc : a.eval c = .int kc C) (hL : L = (n : Int)) (hC : C = (n : Int)) (b2 : n ≤ 1000000000)
    (hK : ∀ g w', g = w.heap.size → Own e w' g (List.replicate n 0) → Below w.heap.size w w' → w.heap.size < w'.heap.size → wpList P ops Q rest (a.put o.dst (.slice (some ⟨g, 0, none⟩) n n)) w') :
    wpList P ops Q (o :: rest) a w := by
  refine wpList_make_full w hg l c t hop 0 e i _ 1 h1 h2 h3 h4 kl kc L C n hl hc hL hC (by rw [h5]; omega) (by unfold maxLen; omega) (Nat.zero_le _) ?_
  intro w' hown hgr
  refine hK _ _ rfl ?_ ⟨hgr.os, hgr.tape, hgr.output, hgr.size, fun k hk => hgr.block k hk (by simp)⟩ ?_
  · refine Own.of_row hown ?_
    rw [Nat.mul_one, show (Value.int .u32 0).cells = #[Value.int .u32 0] from rfl, toList_madeCells_one, List.map_replicate]
    rfl
  · have := hown.lt w.heap.size rfl
    exact this.2

/-- copy into the head of a block of the call's own -/
theorem wpList_copy_u32 {P : Program} {w : World} {ops : Array Oper} {rest : List Oper} {o : Oper} {a : Act} {Q : Exit → Act → World → Prop} (hgd : o.guard = none) (d s : Operand) (dT sT : TypeId)
    (ho : o.op = .call { callee := .builtin .copy, args := #[d, s], argTypes := #[dT, sT] }) (elem : TypeId) (hu : P.underlying dT = some (.slice elem)) (hsz : (P.info? elem).map (·.size) = some 1)
    (g dLen dCap sLen sCap : Nat) (A : Option Addr) (hd : a.eval d = .slice (some ⟨g, 0, none⟩) dLen dCap) (hs : a.eval s = .slice A sLen sCap)
    (e : TypeId) (l ls : List Nat) (S : Nat → Prop) (hown : Own e w g l) (hl : l.length = dLen) (hls : ls.length = sLen) (hle : sLen ≤ dLen) (hcel : Cel w S A ls)
    (h : ∀ w', Own e w' g (ls ++ l.drop sLen) → Below g w w' → wpList P ops Q rest (a.put o.dst (goInt sLen)) w') :
    wpList P ops Q (o :: rest) a w := by
  subst hls
  by_cases h0 : ls.length = 0
  · have hnil : ls = [] := List.eq_nil_of_length_eq_zero h0
    subst hnil
    refine wpList_copy_nothing hgd d s dT sT ho elem hu hsz _ _ dLen dCap 0 sCap hd hs (by simp) ?_
    exact h w (by simpa using hown) (Below.refl _ _)
  · obtain ⟨g', off, rfl, _, hc⟩ := hcel (by omega)
    have hadd : ∀ j, (⟨g', off, none⟩ : Addr).add j = ⟨g', off + j, none⟩ := fun j => by unfold Addr.add; split <;> simp_all
    have hw := wpList_copy_own (P := P) (w := w) (ops := ops) (rest := rest) (o := o) (a := a) (Q := Q) hgd d s dT sT ho elem hu hsz g 0 dLen dCap ⟨g', off, none⟩ ls.length sCap hd hs _ e hown (ls.map Lv)
      (by rw [List.length_map]; exact (Nat.min_eq_left hle).symm)
      (fun j v hv => by
        rw [hadd]
        rw [List.getElem?_map] at hv
        cases hx : ls[j]? with
        | none => rw [hx] at hv; cases hv
        | some x => rw [hx] at hv; injection hv with hv; rw [← hv]; exact hc j x hx)
      (by simp; omega)
      (fun v hv => by obtain ⟨x, _, rfl⟩ := List.mem_map.1 hv; rfl)
    simp only [List.length_map] at hw
    refine hw (h _ ?_ ⟨rfl, rfl, rfl, by simp [World.setRow], fun k hk => setRow_other w g k _ (by omega)⟩)
    unfold Own
    rw [setRow_heap w g _ _ e _ hown]
    simp
end Go.Proofs.YthcoemkbdllcfaaDoor
