/-
  The walks of natural.trim, clone, Norm, sign, addInto and Add; a result of a function is a number in normal form in memory of its own.
-/
import Derived.Test.YthcoemkbdllcfaaDoorMem
import Derived.Test.YthcoemkbdllcfaaDoorTrim
import Derived.Test.YthcoemkbdllcfaaDoorRows
import Derived.WalkKit
import Derived.WalkSpells
import Derived.Lib.Hide
import Derived.BigQuiet
import Derived.Deep.QuietTactic
namespace Go.Proofs.YthcoemkbdllcfaaDoor
open Go.RowKit

/-- A callee that leaves the world alone, called in a region behind q draws. -/
theorem quiet_q {P : Program} {f : FuncId} {args : Array Value} {w : World} {q n : Nat} {v : Value} (h : ∀ W, Calls P f args W fun e w' => e = .returned v ∧ W = w') :
    Calls P f args (w.drewN (q + n)) fun e w' => e = .returned v ∧ ∃ k, w' = w.drewN (q + k) := (h _).mono fun _ _ ⟨he, hw⟩ => ⟨he, n, hw.symm⟩
theorem quiet_0 {P : Program} {f : FuncId} {args : Array Value} {w : World} {n : Nat} {v : Value} (h : ∀ W, Calls P f args W fun e w' => e = .returned v ∧ W = w') :
    Calls P f args (w.drewN n) fun e w' => e = .returned v ∧ ∃ k, w' = w.drewN k := (h _).mono fun _ _ ⟨he, hw⟩ => ⟨he, n, hw.symm⟩

theorem info_u32 : (Tryd.prog.info? 46).map (fun i => (i.zero, i.size, i.bytes)) = some (some (.int .u32 0), 1, 4) := by kernel_rfl
theorem size_u32 : (Tryd.prog.info? 46).map (·.size) = some 1 := by kernel_rfl
/-- A result: a number in normal form, of value m; what was there before the call is as it was. -/
def Res (w w' : World) (v : Value) (m : Nat) : Prop := ∃ l, Rd w' (fun _ => True) v l ∧ Num.Nrm l ∧ Num.val l = m ∧ Below w.heap.size w w'
/-- The same, in a block of the call's own. -/
def New (w w' : World) (v : Value) (l : List Nat) : Prop := ∃ g, v = .slice (some ⟨g, 0, none⟩) l.length l.length ∧ w.heap.size ≤ g ∧ Own 46 w' g l ∧ Below w.heap.size w w'

set_option maxHeartbeats 400000 in
theorem clone_walk (S : Nat → Prop) (A : Option Addr) (n c : Nat) (l : List Nat) (w : World) (hn : l.length = n) (hb : n ≤ 100000000) (h : Cel w S A l) :
    Calls Tryd.prog 62 #[.slice A n c] w fun e w' => ∃ v, e = .returned v ∧ New w w' v l := by
  obtain ⟨i0, hi, hz0, hz1, hz2⟩ := info_parts info_u32
  have Hn := Lib.hid hn
  clear hn
  go_enter Tryd.func62, Tryd.ntmps62
  go_wp2_with (first
    | (at_make; refine wpList_make_u32 _ rfl (.tmp 5) (.tmp 5) 23 rfl 46 i0 Tryd.underlying23 hi hz0 hz1 hz2 .i64 .i64 n n n rfl rfl rfl rfl (by omega) ?_; intro g w1 hg1 hown1 hb1 hs1; have Hg := Lib.hid hg1; clear hg1)
    | (with_reducible refine wpList_copy_u32 rfl (.tmp 7) (.tmp 8) 23 23 rfl 46 Tryd.underlying23 size_u32 g n n n c A rfl rfl 46 _ l S hown1 (by simp) Hn.out (Nat.le_refl _) (h.below' hb1) ?_; intro w2 hown2 hb2))
  go_ret
  refine ⟨_, rfl, g, by rw [Hn.out]; rfl, ?_, ?_, ?_⟩
  · have := Hg.out; omega
  · simpa [Hn.out] using hown2
  · exact hb1.trans (hb2.mono (by have := Hg.out; omega))

set_option maxHeartbeats 400000 in
theorem norm_walk (S : Nat → Prop) (A : Option Addr) (n c : Nat) (l : List Nat) (w : World) (hn : l.length = n) (hlc : n ≤ c) (hc : c ≤ 9223372036854775807) (hb : n ≤ 100000000) (h : Cel w S A l) :
    Calls Tryd.prog 40 #[.slice A n c] w fun e w' => ∃ v k, k ≤ n ∧ e = .returned v ∧ New w w' v (l.take k) ∧ Num.Zer l k ∧ Num.Nrm (l.take k) := by
  have Hn := Lib.hid hn
  clear hn
  go_enter Tryd.func40, Tryd.ntmps40
  go_wp2_with (first
    | (go_at_call 63; refine (trim_walk S A n c l _ Hn.out.symm hlc hc h).mono ?_; rintro e w' ⟨⟨k, hk, rfl, hz, hnr⟩, rfl⟩)
    | (go_at_call 62; refine (clone_walk S A k c (l.take k) _ (by have := Hn.out; rw [List.length_take]; omega) (by omega) (h.take k)).mono ?_; rintro e w' ⟨v, rfl, hnew⟩))
  go_ret
  exact ⟨v, k, hk, rfl, hnew, hz, hnr⟩

theorem sign_true (w : World) : Calls Tryd.prog 64 #[.bool true] w fun e w' => e = .returned (.int .i64 1) ∧ w = w' := by
  go_enter Tryd.func64, Tryd.ntmps64
  go_wp2
  go_ret
  exact ⟨rfl, rfl⟩
theorem sign_false (w : World) : Calls Tryd.prog 64 #[.bool false] w fun e w' => e = .returned (.int .i64 (-1)) ∧ w = w' := by
  go_enter Tryd.func64, Tryd.ntmps64
  go_wp2
  go_ret
  exact ⟨rfl, rfl⟩
def signI (b : Bool) : Int := if b then 1 else -1
theorem signI_true {b : Bool} (h : b = true) : signI b = 1 := by rw [h]; rfl
theorem signI_false {b : Bool} (h : b = false) : signI b = -1 := by rw [h]; rfl
theorem sign_any (b : Bool) (w : World) : Calls Tryd.prog 64 #[.bool b] w fun e w' => e = .returned (.int .i64 (signI b)) ∧ w = w' := by
  cases b
  · exact sign_false w
  · exact sign_true w

set_option maxHeartbeats 1000000 in
theorem addInto_walk (A : Option Addr) (g off n m c c' : Nat) (l lb : List Nat) (w : World) (hown : Own 46 w g l) (hfit : off + n ≤ l.length) (hc : n ≤ 9223372036854775807) (hb : Cel w (· ≠ g) A lb) (hm : lb.length = m) (hmn : m ≤ n) (_hmc : m ≤ c') (hL : Num.Lim l) (hLb : Num.Lim lb) :
    Calls Tryd.prog 66 #[.slice (some ⟨g, off, none⟩) n c, .slice A m c'] w fun e w' => e = .returned (.tuple #[]) ∧ AddPost 46 g off n l lb w w' := by
  have HL := Lib.hid hL
  have HLb := Lib.hid hLb
  have Hm := Lib.hid hm
  clear hm hL hLb
  go_enter Tryd.func66, Tryd.ntmps66
  go_wp2
  go_loopw [4, 8] (fun cy i wr => ∃ k : Nat, k ≤ n ∧ i = .int .i64 k ∧ ∃ cr : Nat, cr ≤ 1 ∧ cy = .int .u64 cr ∧ AddInv 46 g off k cr l lb w wr) (fun _ i _ => n - (intOf i).toNat)
  case atStart => exact ⟨0, Nat.zero_le _, rfl, 0, by omega, rfl, AddInv.start hown⟩
  case round =>
    obtain ⟨k, hk, rfl, cr, hcr, rfl, hinv⟩ := hrel
    by_cases hlt : k < n
    · obtain ⟨x, hx⟩ : ∃ x, l[off + k]? = some x := ⟨_, List.getElem?_eq_getElem (by omega)⟩
      have hxb : x < 4294967296 := HL.out.at hx
      have hcell := hinv.cell hx
      have hfr := hinv.frozen (off + k)
      have Hx := Lib.hid hx
      clear hx
      by_cases hkm : k < m
      · obtain ⟨g', off', rfl, hg', hcb⟩ := hb (by have := Hm.out; omega)
        obtain ⟨y, hy⟩ : ∃ y, lb[k]? = some y := ⟨_, List.getElem?_eq_getElem (by have := Hm.out; omega)⟩
        have hyb : y < 4294967296 := HLb.out.at hy
        have hcelly := hinv.other hg' (hcb _ _ hy)
        have Hy := Lib.hid hy
        clear hy hcb
        go_wp2
        go_roundw
        case rel => exact ⟨k + 1, by omega, by go_num, (cr + x + y) / 4294967296, by omega, by go_num, hinv.step Hx.out y (val_take_succ _ _ _ Hy.out) _ (by omega)⟩
        case measure => simp [intOf]; omega
      · have hmk : m ≤ k := by omega
        clear hkm
        go_wp2
        go_roundw
        case rel => exact ⟨k + 1, by omega, by go_num, (cr + x + 0) / 4294967296, by omega, by go_num, hinv.step Hx.out 0 (take_past _ _ (by have := Hm.out; omega)) _ (by omega)⟩
        case measure => simp [intOf]; omega
    · go_wp2
      go_end0
      obtain rfl : k = n := by omega
      exact ⟨rfl, hinv.done hcr (by have := Hm.out; omega)⟩
end Go.Proofs.YthcoemkbdllcfaaDoor
