/-
  The walks of natural.appendDigit, isNumeral and Parse.
-/
import Derived.Test.YthcoemkbdllcfaaDoorLit
namespace Go.Proofs.YthcoemkbdllcfaaDoor
open Go.RowKit

/-- v owns a row of limbs among the blocks from base on. -/
def Row (w : World) (base : Nat) (v : Value) (l : List Nat) : Prop := w.ownsRow base 46 1 v l.length (l.map Lv)
theorem Row.open_ {w : World} {base : Nat} {v : Value} {l : List Nat} (h : Row w base v l) : ∃ A c, v = .slice A l.length c ∧ l.length ≤ c ∧ c ≤ 9223372036854775807 := by
  rcases h.2 with ⟨h1, h2⟩ | ⟨g, cap, cur, h1, _, _, h2, h3, _⟩
  · exact ⟨none, 0, by rw [h1, h2], by omega, by omega⟩
  · exact ⟨_, cap, h1, h2, by unfold maxLen at h3; omega⟩
theorem Row.addr {w : World} {base : Nat} {A : Option Addr} {n c : Nat} {l : List Nat} (h : Row w base (.slice A n c) l) (hl : 0 < l.length) : ∃ g, A = some ⟨g, 0, none⟩ ∧ base ≤ g := by
  rcases h.2 with ⟨h1, h2⟩ | ⟨g, cap, cur, h1, hb, _⟩
  · omega
  · injection h1 with h1
    exact ⟨g, h1, hb⟩
theorem Row.at_ {w : World} {base g n c : Nat} {l : List Nat} (h : Row w base (.slice (some ⟨g, 0, none⟩) n c) l) {j x : Nat} (hx : l[j]? = some x) : w.cell? ⟨g, j, none⟩ = some (.int .u32 (x : Int)) := by
  have hj := (List.getElem?_eq_some_iff.1 hx).1
  have hn : n = l.length := by
    rcases h.2 with ⟨h1, h2⟩ | ⟨g', cap, cur, h1, _⟩
    · omega
    · injection h1
  subst hn
  rw [World.ownsRow.cellAt h j (by omega), List.getElem?_map, hx]
  rfl
theorem Row.fz {w : World} {base g n c : Nat} {l : List Nat} (h : Row w base (.slice (some ⟨g, 0, none⟩) n c) l) (j : Nat) : w.frozen? ⟨g, j, none⟩ = false := by
  have hn : n = l.length := by
    rcases h.2 with ⟨h1, h2⟩ | ⟨g', cap, cur, h1, _⟩
    · simp at h1
    · injection h1
  subst hn
  exact World.ownsRow.frozenAt h j
theorem Row.set_ {w : World} {base g n c : Nat} {l : List Nat} (h : Row w base (.slice (some ⟨g, 0, none⟩) n c) l) (j x : Nat) (z : Int) (hz : z = (x : Int)) :
    Row (w.setCell ⟨g, j, none⟩ (.int .u32 z)) base (.slice (some ⟨g, 0, none⟩) n c) (l.set j x) := by
  have hn : n = l.length := by
    rcases h.2 with ⟨h1, h2⟩ | ⟨g', cap, cur, h1, _⟩
    · simp at h1
    · injection h1
  subst hn
  subst hz
  have h1 := (World.ownsRow.stored h j (.int .u32 (x : Int))).1
  unfold Row
  rw [List.length_set, List.map_set]
  exact h1
theorem Row.cel {w : World} {base : Nat} {A : Option Addr} {n c : Nat} {l : List Nat} (h : Row w base (.slice A n c) l) : Cel w (fun g => base ≤ g) A l := fun hl => by
  obtain ⟨g, rfl, hb⟩ := h.addr hl
  exact ⟨g, 0, rfl, hb, fun j x hx => by rw [Nat.zero_add]; exact h.at_ hx⟩
theorem Row.rd {w : World} {base : Nat} {v : Value} {l : List Nat} (h : Row w base v l) (hL : Num.Lim l) : Rd w (fun g => base ≤ g) v l := by
  obtain ⟨A, c, rfl, h1, h2⟩ := h.open_
  exact ⟨A, c, rfl, h1, h2, hL, h.cel⟩
theorem Row.nil (w : World) (base : Nat) : Row w base (.slice none 0 0) [] := World.ownsRow_nil w base _ 1

/-- The loop of appendDigit. -/
def AdInv (base : Nat) (v : Value) (k cr dg : Nat) (l : List Nat) (w wr : World) : Prop :=
  ∃ r, r.length = k ∧ Num.Lim r ∧ Num.val r + Num.K ^ k * cr = 10 * Num.val (l.take k) + dg ∧ Row wr base v (mid l 0 r) ∧ w.grownBy wr v.ownBlock
theorem ad_num (R P K cr L dg x t : Nat) (hv : R + P * cr = 10 * L + dg) (ht : t = cr + 10 * x) (d c' : Nat) (hd : d + K * c' = t) : R + P * d + P * K * c' = 10 * (L + P * x) + dg := by
  subst ht
  have h := congrArg (P * ·) hd
  simp only [Nat.mul_add, ← Nat.mul_assoc] at h ⊢
  have e1 : P * 10 * x = 10 * P * x := by rw [Nat.mul_comm P 10]
  omega
theorem AdInv.step {base g n c k cr dg : Nat} {l : List Nat} {w wr : World} (h : AdInv base (.slice (some ⟨g, 0, none⟩) n c) k cr dg l w wr) {x : Nat} (hx : l[k]? = some x) (z : Int) (hz : z = ((cr + 10 * x) % 4294967296 : Nat)) :
    AdInv base (.slice (some ⟨g, 0, none⟩) n c) (k + 1) ((cr + 10 * x) / 4294967296) dg l w (wr.setCell ⟨g, k, none⟩ (.int .u32 z)) := by
  obtain ⟨r, hk, hr, hv, hrow, hg⟩ := h
  have hlt := (List.getElem?_eq_some_iff.1 hx).1
  have e := mid_set l 0 r ((cr + 10 * x) % 4294967296) (by omega)
  rw [Nat.zero_add, hk] at e
  refine ⟨r ++ [(cr + 10 * x) % 4294967296], by simp [hk], hr.append (Num.Lim.cons (Nat.mod_lt _ (by decide)) Num.Lim.nil), ?_, by rw [← e]; exact hrow.set_ k _ z hz, only_setCell hg _ _⟩
  rw [Num.val_snoc, hk, val_take_succ l k x hx, Nat.pow_succ]
  exact ad_num _ _ _ _ _ _ _ _ hv rfl _ _ (Nat.mod_add_div _ _)
theorem nrm_of_val {l : List Nat} (hL : Num.Lim l) (h : l = [] ∨ Num.K ^ (l.length - 1) ≤ Num.val l) : Num.Nrm l := by
  rcases h with rfl | h
  · exact Num.Nrm.nil
  · intro he
    obtain ⟨a, x, rfl⟩ : ∃ a x, l = a ++ [x] := by
      have hne : l ≠ [] := by intro e; rw [e] at he; simp at he
      exact ⟨l.dropLast, l.getLast hne, (List.dropLast_concat_getLast hne).symm⟩
    have hx : x = 0 := by rw [List.getLast?_append] at he; simpa using he
    subst hx
    have h1 := Num.val_lt a (fun y hy => hL y (by simp [hy]))
    rw [Num.val_snoc, Nat.mul_zero, Nat.add_zero] at h
    simp at h
    omega

/-- What appendDigit returns. -/
def AdEnd (base m : Nat) (v : Value) (w : World) (e : Ending) (w' : World) : Prop := ∃ v' l', e = .returned v' ∧ Row w' base v' l' ∧ Num.Lim l' ∧ Num.Nrm l' ∧ Num.val l' = m ∧ w.grownBy w' v.ownBlock

set_option maxRecDepth 4000 in
set_option maxHeartbeats 1000000 in
theorem appendDigit_walk (base dg : Nat) (v : Value) (l : List Nat) (w : World) (hrow : Row w base v l) (hL : Num.Lim l) (hN : Num.Nrm l) (hb : base ≤ w.heap.size) (hdg : dg < 10) (hlb : l.length ≤ 1000000) :
    Calls Tryd.prog 75 #[v, .int .u8 (dg : Int)] w (AdEnd base (10 * Num.val l + dg) v w) := by
  obtain ⟨i0, hi, hz0, hz1, hz2⟩ := info_parts info_u32
  obtain ⟨A, c, hv, hlc, hc⟩ := hrow.open_
  obtain ⟨n, hn⟩ : ∃ n, n = l.length := ⟨_, rfl⟩
  rw [← hn] at hv hlc hlb
  subst hv
  have Hn := Lib.hid hn
  have HL := Lib.hid hL
  have HN := Lib.hid hN
  clear hn hL hN
  have ha := fun hl => hrow.addr (l := l) hl
  go_enter Tryd.func75, Tryd.ntmps75
  go_wp2
  go_loopw [5, 12] (fun cy i wr => ∃ k : Nat, k ≤ n ∧ i = .int .i64 k ∧ ∃ cr : Nat, cr ≤ 10 ∧ cy = .int .u64 cr ∧ AdInv base (.slice A n c) k cr dg l w wr) (fun _ i _ => n - (intOf i).toNat)
  case atStart => exact ⟨0, Nat.zero_le _, rfl, dg, by omega, rfl, [], rfl, Num.Lim.nil, by simp [Num.val], by rw [mid_nil]; exact hrow, only_refl _ _⟩
  case round =>
    obtain ⟨k, hk, rfl, cr, hcr, rfl, hinv⟩ := hrel
    by_cases hlt : k < n
    · obtain ⟨g, rfl, hg⟩ := ha (by have := Hn.out; omega)
      obtain ⟨x, hx⟩ : ∃ x, l[k]? = some x := ⟨_, List.getElem?_eq_getElem (by have := Hn.out; omega)⟩
      have hxb : x < 4294967296 := HL.out.at hx
      have hcell : wr.cell? ⟨g, k, none⟩ = some (.int .u32 (x : Int)) := by
        obtain ⟨r, hr, _, _, hrow', _⟩ := hinv
        refine hrow'.at_ ?_
        have := mid_at l 0 r (by omega) k (by omega)
        rw [Nat.zero_add] at this
        rw [this]
        exact hx
      have hfr : wr.frozen? ⟨g, k, none⟩ = false := by
        obtain ⟨r, hr, _, _, hrow', _⟩ := hinv
        exact hrow'.fz k
      have Hx := Lib.hid hx
      clear hx
      go_wp2
      go_roundw
      case rel => exact ⟨k + 1, by omega, by go_num, (cr + 10 * x) / 4294967296, by omega, int_u64 (by omega), hinv.step Hx.out _ (by omega)⟩
      case measure => simp [intOf] <;> omega
    · have hkk : k = n := by omega
      subst hkk
      obtain ⟨r, hr, hLr, hvr, hrow', hg'⟩ := hinv
      have hwhole : mid l 0 r = r := mid_whole l r (by have := Hn.out; omega)
      rw [hwhole] at hrow'
      have Hr := Lib.hid hr
      have Hvr := Lib.hid hvr
      clear hr hvr hwhole
      by_cases hc0 : cr = 0
      · subst hc0
        go_wp2
        go_ret
        have h1 := Hvr.out
        rw [Nat.mul_zero, Nat.add_zero, List.take_of_length_le (by have := Hn.out; omega)] at h1
        refine ⟨_, r, rfl, hrow', hLr, nrm_of_val hLr ?_, h1, hg'⟩
        rcases Nat.eq_zero_or_pos k with h0 | h0
        · exact .inl (List.eq_nil_of_length_eq_zero (by have := Hr.out; omega))
        · refine .inr ?_
          have h2 := HN.out.ge (by intro e; rw [e] at Hn; have := Hn.out; simp at this; omega)
          have e : r.length = l.length := by have := Hr.out; have := Hn.out; omega
          rw [e]
          omega
      · have t0 : ((cr : Int) != 0) = true := by simp; omega
        have hrow2 : wr.ownsRow base 46 1 (.slice A k c) k (r.map Lv) := by
          have := hrow'
          unfold Row at this
          rwa [Hr.out] at this
        have hbw : base ≤ wr.heap.size := Nat.le_trans hb hg'.size
        clear hc0 hrow'
        go_wp2_with (at_builtin; refine wpList_append_own _ rfl (.tmp 32) (.tmp 35) 23 rfl base 46 i0 (.int .u32 0) 1 4 Tryd.underlying23 hi hz0 hz1 hz2 rfl (by decide) _ k _ rfl (hrow2.alloc _) ⟨wr.heap.size, 0, none⟩ 1 1 [.int .u32 (cr : Int)] rfl rfl ?c1 ?c2 ?c3 ?c4 ?c5 ?_)
        case c1 =>
          intro j u hj
          match j, hj with
          | 0, hj => simp at hj; subst hj; simp [Addr.add]
        case c2 => intro u hu; simp at hu; subst hu; rfl
        case c3 => unfold maxLen; omega
        case c4 => omega
        case c5 => simp; omega
        intro v' w1 hown' hgrow _
        go_wp2
        go_ret
        have h1 := Hvr.out
        rw [List.take_of_length_le (by have := Hn.out; omega)] at h1
        have hL' : Num.Lim (r ++ [cr]) := hLr.append (Num.Lim.cons (by rw [Num.K_eq]; omega) Num.Lim.nil)
        refine ⟨v', r ++ [cr], rfl, ?_, hL', ?_, ?_, ?_⟩
        · unfold Row
          have e : (r ++ [cr]).length = k + 1 := by simp; exact Hr.out
          rw [e, List.map_append]
          exact hown'
        · unfold Num.Nrm
          rw [List.getLast?_append]
          simp
          intro e
          rw [e] at t0
          simp at t0
        · rw [Num.val_snoc, Hr.out]; exact h1
        · exact only_trans (only_trans hg' (World.grownBy_alloc wr _ _)) hgrow
end Go.Proofs.YthcoemkbdllcfaaDoor
