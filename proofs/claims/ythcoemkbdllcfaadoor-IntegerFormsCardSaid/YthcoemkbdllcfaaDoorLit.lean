/-
  Words that the walks of numbers share: literals in memory, what a comparison and a difference leave, a law's end.
-/
import Derived.Test.YthcoemkbdllcfaaDoorDivMod
import Derived.Test.YthcoemkbdllcfaaDoorAdd
import Derived.Deep.LoopGhost
namespace Go.Proofs.YthcoemkbdllcfaaDoor
open Go.RowKit

theorem Rd.len {w : World} {S : Nat → Prop} {v : Value} {l : List Nat} (h : Rd w S v l) : ∃ A c, v = .slice A l.length c := by
  obtain ⟨A, c, e, _⟩ := h
  exact ⟨A, c, e⟩
theorem Rd.lim {w : World} {S : Nat → Prop} {v : Value} {l : List Nat} (h : Rd w S v l) : Num.Lim l := by
  obtain ⟨_, _, _, _, _, h, _⟩ := h
  exact h
theorem Rd.slice {w : World} {S : Nat → Prop} {A : Option Addr} {n c : Nat} {l : List Nat} (hn : l.length = n) (hnc : n ≤ c) (hc : c ≤ 9223372036854775807) (hL : Num.Lim l) (hA : Cel w S A l) : Rd w S (.slice A n c) l :=
  ⟨A, c, by rw [hn], by omega, hc, hL, hA⟩
/-- A call returns a number in normal form, of value m. -/
def NumEnd (m : Nat) (w : World) (e : Ending) (w' : World) : Prop := ∃ v, e = .returned v ∧ Res w w' v m
theorem Own.cell0 {t : TypeId} {w : World} {g : Nat} {l : List Nat} (h : Own t w g l) (j x : Nat) (hx : l[j]? = some x) : w.cell? ⟨g, j, none⟩ = some (.int .u32 (x : Int)) := by
  have := h.cel j x hx
  rwa [Nat.zero_add] at this
theorem Rd.lit (W : World) (l : List Nat) (cs : Array Value) (g n : Nat) (hcs : cs = (l.map Lv).toArray) (hn : n = l.length) (hg : g = W.heap.size) (hL : Num.Lim l) (hb : n ≤ 1000) : Rd (W.alloc (.cells cs 46)) (fun _ => True) (.slice (some ⟨g, 0, none⟩) n n) l := by
  subst hcs; subst hg; subst hn
  exact (Own.new W 46 l).rd _ trivial hL (by omega)
theorem below_alloc (W : World) (o : Obj) : Below W.heap.size W (W.alloc o) := (Below.refl _ _).alloc (Nat.le_refl _) _
theorem lim1 (a : Nat) (ha : a < 4294967296) : Num.Lim [a] := Num.Lim.cons ha Num.Lim.nil
theorem lim2 (a b : Nat) (ha : a < 4294967296) (hb : b < 4294967296) : Num.Lim [a, b] := Num.Lim.cons ha (lim1 b hb)
theorem b_alloc {w w' : World} {o : Obj} (h : Below (w.alloc o).heap.size (w.alloc o) w') : Below w.heap.size w w' := (below_alloc w o).trans (h.mono (below_alloc w o).size)
theorem below_q {w w' : World} (h : ∃ q, w' = w.drewN q) : Below w.heap.size w w' := by
  obtain ⟨q, rfl⟩ := h
  exact below_drewN (Below.refl _ _) q
theorem sub_lt_b (va vb : Value) (la lb : List Nat) (w : World) (ha : Rd w (fun _ => True) va la) (hb : Rd w (fun _ => True) vb lb) (hlt : Num.val la < Num.val lb) :
    Calls Tryd.prog 47 #[va, vb] w fun e w' => e = .returned (.tuple #[.slice none 0 0, .bool false]) ∧ Below w.heap.size w w' := (sub_lt va vb la lb w ha hb hlt).mono fun _ _ ⟨h, hq⟩ => ⟨h, below_q hq⟩
theorem cmp_b (va vb : Value) (la lb : List Nat) (w : World) (ha : Rd w (fun _ => True) va la) (hb : Rd w (fun _ => True) vb lb) (c : Int) (hc : cmpI (Num.val la) (Num.val lb) = c) :
    Calls Tryd.prog 44 #[va, vb] w fun e w' => e = .returned (.int .i64 c) ∧ Below w.heap.size w w' := (cmp_walk va vb la lb w ha hb).mono fun _ _ ⟨h, hq⟩ => ⟨by rw [h, hc], below_q hq⟩
theorem nrm1 (a : Nat) (h : a ≠ 0) : Num.Nrm [a] := by simp [Num.Nrm, h]
theorem nrm2 (a b : Nat) (h : b ≠ 0) : Num.Nrm [a, b] := by simp [Num.Nrm, h]
/-- A law's call returns true and writes nothing that was there. -/
def LawEnd (w : World) (e : Ending) (w' : World) : Prop := e = .returned (.bool true) ∧ Below w.heap.size w w'
theorem Rd.addr {w : World} {S : Nat → Prop} {A : Option Addr} {n c : Nat} {l : List Nat} (h : Rd w S (.slice A n c) l) : l.length = n := by
  obtain ⟨A', c', e, _⟩ := h
  injection e with _ e
  exact e.symm
theorem len_of {l : List Nat} {k : Nat} {a : Nat} (hn : Num.Nrm l) (hv : Num.val l = a) (h : a < Num.K ^ k) : l.length ≤ k := hn.len_le (by rw [hv]; exact h)
theorem sq_lt {a k : Nat} (h : a < Num.K ^ k) : a * a < Num.K ^ (k + k) := by
  rw [Nat.pow_add]
  have := Nat.mul_le_mul (Nat.le_of_lt h) (Nat.le_of_lt h)
  have h2 := Nat.mul_lt_mul_of_lt_of_le h (Nat.le_of_lt h) (by omega)
  exact h2
end Go.Proofs.YthcoemkbdllcfaaDoor
