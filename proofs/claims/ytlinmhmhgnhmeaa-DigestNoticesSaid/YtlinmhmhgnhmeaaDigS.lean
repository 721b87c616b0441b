/-
  The walks of the reference's Links, Hex and Parse.
-/
import Derived.Test.YtlinmhmhgnhmeaaDigR
namespace Go.Proofs.Ytlinmhmhgnhmeaa
open Go.RowKit Dig
set_option linter.unusedVariables false
theorem info_u64 : (Try.prog.info? 22).map (fun i => (i.zero, i.size, i.bytes)) = some (some (.int .u64 0), 1, 8) := by kernel_rfl
theorem lk_next (L : List (List UInt8)) (i : Nat) (s : List UInt8) (h : L[i]? = some s) : lk 0 (L.take (i + 1)) = lk 0 (L.take i) ++ [lastOf 0 (L.take (i + 1))] := by
  rw [List.take_add_one, h]
  show lk 0 (L.take i ++ [s]) = _
  rw [lk_append, lk, lk]
  show _ = _ ++ [lastOf 0 (L.take i ++ [s])]
  rw [lastOf_snoc]
/-- A row of one digest more. -/
theorem row_more {w : World} {B : Nat} {v : Value} {n d : Nat} {l : List Nat} (h : w.ownsRow B 22 1 v (n + 1) (l.map Uv ++ [.int .u64 (d : Int)])) (hl : l.length = n) : w.ownsRow B 22 1 v (n + 1) ((l ++ [d]).map Uv) := by
  rw [List.map_append]
  exact h
set_option maxRecDepth 20000 in
set_option maxHeartbeats 1000000 in
theorem rlinks_walk (L : List (List UInt8)) (v : Value) (w : World) (h : RdT w L v) (hm : L.length ≤ 1000) (hs : ∀ s ∈ L, s.length ≤ 100000) : Calls Try.prog 20 #[v] w (LnkEnd (lk 0 L) w) := by
  obtain ⟨i0, hi, hz0, hz1, hz2⟩ := info_parts info_u64
  obtain ⟨A, m, c, rfl, Hm, hmc, hc⟩ := h.named
  have hm' : m ≤ 1000 := by have := Hm.out; omega
  have B0 := Below.refl w.heap.size w
  have hr0 : w.ownsRow w.heap.size 22 1 (.slice none 0 0) 0 ((lk 0 (L.take 0)).map Uv) := by rw [List.take_zero]; exact World.ownsRow_nil _ _ _ 1
  have HS := Lib.hid hs
  clear hs hm
  go_enter Try.func20, Try.ntmps20
  go_wp2
  go_loopw [3, 4, 5] (fun x y z wr => ∃ i d : Nat, i ≤ m ∧ z = .int .i64 (i : Int) ∧ y = .int .u64 (d : Int) ∧ Hid (d = lastOf 0 (L.take i)) ∧ wr.ownsRow w.heap.size 22 1 x i ((lk 0 (L.take i)).map Uv) ∧ Below w.heap.size w wr) (fun _ _ z _ => m - (intOf z).toNat)
  case atStart => exact ⟨0, 0, Nat.zero_le _, rfl, rfl, Lib.hid rfl, hr0, B0⟩
  case round =>
    clear B0 hr0
    obtain ⟨i, d, hile, rfl, rfl, hD, hrow, B0⟩ := hrel
    have hT := h.below B0
    by_cases hlt : i < m
    · obtain ⟨s, hs⟩ : ∃ s, L[i]? = some s := ⟨_, List.getElem?_eq_getElem (by have := Hm.out; omega)⟩
      obtain ⟨g, off, rfl, hcell, hsl⟩ := hT.at hs
      have hsb : (ofL s).size ≤ 900000 := by have := HS.out s (List.mem_of_getElem? hs); rw [ofL_size]; omega
      obtain ⟨D, hDD⟩ : ∃ D, ch d s = D := ⟨_, rfl⟩
      have hN : Hid (D = lastOf 0 (L.take (i + 1))) := by
        show _ = _
        rw [lastOf_next L 0 i s hs, ← hD.out, hDD]
      have hK : Hid (lk 0 (L.take (i + 1)) = lk 0 (L.take i) ++ [D]) := by
        show _ = _
        rw [hN.out]
        exact lk_next L i s hs
      have HC := Lib.hid (rchain_walk d (ofL s) wr hsb)
      rw [ofL_data, hDD] at HC
      have hlen : Hid ((lk 0 (L.take i)).length = i) := by show _ = _; rw [lk_length, List.length_take]; have := Hm.out; omega
      clear hs hDD
      have hBw := B0.size
      go_wp2_with (first
        | (go_at_call 17; (with_reducible refine HC.out.mono ?_); rintro e w2 ⟨rfl, bb⟩; have hrow := ownsRow_below hrow bb; have B0 := B0.trans (bb.mono B0.size); have hBw := B0.size; clear bb)
        | (at_builtin; refine wpList_append_own _ rfl (.tmp 18) (.tmp 20) 32 rfl w.heap.size 22 i0 (.int .u64 0) 1 8 Try.underlying32 hi hz0 hz1 hz2 rfl (by decide) _ i _ rfl (hrow.alloc _) ⟨w2.heap.size, 0, none⟩ 1 1 [.int .u64 (D : Int)] rfl rfl ?_ (fun u hu => by simp at hu; subst hu; rfl) (by unfold maxLen; omega) (by omega) (by simp; omega) ?_))
      · intro j u hj
        match j, hj with
        | 0, hj => simp at hj; subst hj; simp [Addr.add]
      · intro v' w3 hrow3 hg3 _
        have B3 := (B0.alloc B0.size (.cells #[.int .u64 (D : Int)] 22)).grown hg3 (by simp; omega) (fun k hk => (hrow.lt k hk).1)
        have hrow4 := row_more hrow3 hlen.out
        rw [← hK.out] at hrow4
        clear hrow hrow3 hT
        go_wp2_with fail
        go_roundw
        case rel => exact ⟨i + 1, D, by omega, by go_num, rfl, hN, hrow4, B3⟩
        case measure => simp [intOf]; omega
    · have hE : Hid (L.take i = L) := List.take_of_length_le (by have := Hm.out; omega)
      rw [hE.out] at hrow
      obtain ⟨Ax, mx, cx, rfl⟩ : ∃ Ax mx cx, u3 = .slice Ax mx cx := by
        rcases hrow.2 with ⟨hv, _⟩ | ⟨g, cap, cur, hv, _⟩
        · exact ⟨_, _, _, hv⟩
        · exact ⟨_, _, _, hv⟩
      go_wp2
      go_ret
      have hli : i = (lk 0 L).length := by rw [lk_length]; have := Hm.out; omega
      rw [hli] at hrow
      exact ⟨Ax, mx, cx, rfl, RdU.of_row hrow, B0⟩
/-! ### Hex -/
theorem byte_conv (W : World) (c : UInt8) (z : Int) (hz : z = (c.toNat : Int)) (g : Nat) (hg : g = W.heap.size) :
    (convert 40 9 (.slice (some ⟨g, 0, none⟩) 1 1)).run Try.prog (W.alloc (.cells #[.int .u8 z] 5)) = .ok (.string ⟨#[c]⟩) (W.alloc (.cells #[.int .u8 z] 5)) := by
  subst hz
  subst hg
  exact run_convert_bytes_back (P := Try.prog) (W.alloc (.cells #[.int .u8 (c.toNat : Int)] 5)) 40 9 5 ⟨W.heap.size, 0, none⟩ 1 [c] Try.underlying40 Try.underlying5 Try.underlying9 (by
    intro j hj
    have hj0 : j = 0 := by simp at hj; omega
    subst hj0
    have e1 : ((⟨W.heap.size, 0, none⟩ : Addr).add 0) = ⟨W.heap.size, 0, none⟩ := rfl
    rw [e1, World.cell?_alloc_mark]
    rfl)
def digits : ByteArray := ⟨#[48, 49, 50, 51, 52, 53, 54, 55, 56, 57, 97, 98, 99, 100, 101, 102]⟩
theorem digits_size : digits.size = 16 := rfl
theorem digits_all : ∀ k : Fin 16, digits.data[k.val]? = some (dig k.val) := by decide +kernel
theorem digits_at (k : Nat) (h : k < 16) : digits[k]'(by rw [digits_size]; exact h) = dig k := by
  have h1 := digits_all ⟨k, h⟩
  have h2 : digits.data[k]? = some (digits[k]'(by rw [digits_size]; exact h)) := Array.getElem?_eq_getElem (by exact h)
  exact Option.some.inj (h2.symm.trans h1)
/-- Between the rounds of Hex. -/
def HxA (D i d : Nat) (s : List UInt8) : Prop := hx D = hxn (16 - i) d ++ s
theorem HxA.step {D i d : Nat} {s : List UInt8} (h : HxA D i d s) (hi : i < 16) : HxA D (i + 1) (d / 16) (dig (d % 16) :: s) := by
  obtain ⟨m, hm⟩ : ∃ m, 16 - i = m + 1 := ⟨16 - i - 1, by omega⟩
  have hm' : 16 - (i + 1) = m := by omega
  unfold HxA at h ⊢
  rw [h, hm, hm', hxn, List.append_assoc]
  rfl
theorem HxA.done {D d : Nat} {s : List UInt8} (h : HxA D 16 d s) : s = hx D := by
  unfold HxA at h
  rw [h]
  rfl
set_option maxRecDepth 20000 in
set_option maxHeartbeats 1000000 in
theorem rhex_walk (D : Nat) (w : World) (hD : D < 18446744073709551616) : Calls Try.prog 24 #[.int .u64 (D : Int)] w (StrEnd (hx D) w) := by
  have B0 := Below.refl w.heap.size w
  have hA : Hid (HxA D 0 D (⟨#[]⟩ : ByteArray).data.toList) := by show _ = _; rw [List.append_nil]; rfl
  go_enter Try.func24, Try.ntmps24
  go_wp2
  go_loopw [0, 3, 4] (fun x y z wr => ∃ (i d : Nat) (s : ByteArray), i ≤ 16 ∧ z = .int .i64 (i : Int) ∧ x = .int .u64 (d : Int) ∧ y = .string s ∧ d < 18446744073709551616 ∧ s.size = i ∧ Hid (HxA D i d s.data.toList) ∧ Below w.heap.size w wr) (fun _ _ z _ => 16 - (intOf z).toNat)
  case atStart => exact ⟨0, D, ⟨#[]⟩, by omega, rfl, rfl, rfl, hD, rfl, hA, B0⟩
  case round =>
    clear B0 hA hD
    obtain ⟨i, d, s, hi, rfl, rfl, rfl, hd, hsz, hA, B0⟩ := hrel
    by_cases hlt : i < 16
    · obtain ⟨k, hk⟩ : ∃ k, d % 16 = k := ⟨_, rfl⟩
      have hk16 : k < 16 := by omega
      have hS := hA.out.step hlt
      rw [hk] at hS
      have hmod : (d : Int) % 16 = (k : Int) := by omega
      have hdg := digits_at k hk16
      have i1 : (0 : Int) ≤ (k : Int) := by omega
      have i2 : (k : Int) < 16 := by omega
      have hS := Lib.hid hS
      clear hk
      have hcv := byte_conv wr (dig k) ((digits[k]'(by rw [digits_size]; exact hk16)).toNat : Int) (by rw [hdg]) wr.heap.size rfl
      unfold digits at hcv
      have hz1 : (⟨#[dig k]⟩ : ByteArray).size = 1 := rfl
      have hz2 : (⟨#[dig k]⟩ ++ s : ByteArray).size = i + 1 := by rw [ByteArray.size_append]; omega
      obtain ⟨c, hc⟩ : ∃ c, dig k = c := ⟨_, rfl⟩
      rw [hc] at hcv hz1 hz2 hS
      have B1 := B0.alloc B0.size (.cells #[.int .u8 (c.toNat : Int)] 5)
      have hS2 : Hid (HxA D (i + 1) (d / 16) (⟨#[c]⟩ ++ s : ByteArray).data.toList) := by
        show HxA _ _ _ _
        rw [data_app]
        exact hS.out
      have hdd : Hid (d / 16 < 18446744073709551616) := by show _ < _; omega
      clear hdg hc
      go_wp2
      go_roundw
      case rel => exact ⟨i + 1, d / 16, _, by omega, by go_num, by go_num, rfl, hdd.out, hz2, hS2, B0.alloc B0.size _⟩
      case measure => simp [intOf]; omega
    · obtain rfl : i = 16 := by omega
      have hE := Lib.hid hA.out.done
      go_wp2
      go_ret
      exact ⟨by rw [← hE.out, ofL_eq]; rfl, B0⟩
end Go.Proofs.Ytlinmhmhgnhmeaa
