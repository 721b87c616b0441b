/-
  The walks of garmentref01.Value and Parse.
-/
import Derived.Test.YthcoemkbdllcfaaDoorRefJ
import Derived.Deep.RegionWith
namespace Go.Proofs.YthcoemkbdllcfaaDoor
open Go.RowKit

theorem Nz.carry {w0 w w' : World} {v : Value} {m k : Nat} (hb : Below w.heap.size w w') (h : Nz w0 v m k) (e : w.heap = w0.heap) : Nz w' v m k := by
  have h1 : Nz w v m k := by
    obtain ⟨l, ⟨A, c, e1, e2, e3, e4, e5⟩, h2⟩ := h
    refine ⟨l, ⟨A, c, e1, e2, e3, e4, fun hl => ?_⟩, h2⟩
    obtain ⟨g, off, f1, f2, f3⟩ := e5 hl
    exact ⟨g, off, f1, f2, fun j x hx => by
      have := f3 j x hx
      unfold World.cell? at this ⊢
      rw [e]
      exact this⟩
  exact h1.below hb
theorem rof_z {w : World} (z : Int) (n : Nat) (hz : z = (n : Int)) (hn : n < 18446744073709551616) : Calls Tryd.prog 54 #[.int .u64 z] w (NEnd n 2 w) := by
  subst hz
  exact rof_n n hn
theorem dec_bound {s : ByteArray} (hn : isNum s.data.toList = true) (k : Nat) (hk : k ≤ 200) : decVal (s.data.toList.take k) < Num.K ^ 200 := by
  have h1 := decVal_lt (s.data.toList.take k) (fun c hc => by
    obtain ⟨j, hj⟩ := List.getElem?_of_mem (List.mem_of_mem_take hc)
    exact (isNum_dgt hn hj).2)
  have h2 : (s.data.toList.take k).length ≤ 200 := by rw [List.length_take]; omega
  have h3 : 10 ^ (s.data.toList.take k).length ≤ Num.K ^ 200 := Nat.le_trans (Nat.pow_le_pow_right (by omega) h2) (Nat.pow_le_pow_left (by decide) 200)
  exact Nat.lt_of_lt_of_le h1 h3
set_option maxRecDepth 4000 in
set_option maxHeartbeats 4000000 in
theorem rvalue_n (s : ByteArray) (w : World) (hs : s.size ≤ 200) (hn : isNum s.data.toList = true) : Calls Tryd.prog 77 #[.string s] w (NEnd (decVal s.data.toList) 200 w) := by
  have Hn := Lib.hid hn
  clear hn
  go_enter Tryd.func77, Tryd.ntmps77
  go_wp2
  go_loopw [3, 4] (fun v i wr => ∃ k m : Nat, k ≤ s.size ∧ i = .int .i64 k ∧ Nz wr v m 200 ∧ Hid (m = decVal (s.data.toList.take k)) ∧ Below w.heap.size w wr) (fun _ i _ => s.size - (intOf i).toNat)
  case atStart => exact ⟨0, 0, Nat.zero_le _, rfl, ⟨[], Rd.nil _ _, Num.Nrm.nil, rfl, by simp⟩, rfl, Below.refl _ _⟩
  case round =>
    obtain ⟨k, m, hk, rfl, hv, Hm, hbl⟩ := hrel
    by_cases hlt : k < s.size
    · have HB := Lib.hid (byte_at s k hlt)
      have hd := isNum_dgt Hn.out HB.out
      have hd1 : (48 : Int) ≤ (s[k].toNat : Int) := by omega
      have hd2 : (s[k].toNat : Int) ≤ 57 := by omega
      clear hd
      have HZ : Hid (IntKind.u64.wrap (IntKind.u8.wrap ((s[k].toNat : Int) - 48)) = ((s[k].toNat - 48 : Nat) : Int)) := by
        show _ = _
        rw [IntKind.wrap_u8, IntKind.wrap_u64]
        omega
      have HZb : Hid (s[k].toNat - 48 < 18446744073709551616) := by
        show _ < _
        omega
      have Hm2 : Hid (m * 10 + (s[k].toNat - 48) = decVal (s.data.toList.take (k + 1))) := by
        show _ = _
        rw [decVal_take _ k _ HB.out, ← Hm.out]
        omega
      have Bd : Below w.heap.size w wr.drew := ⟨hbl.os, hbl.tape, hbl.output, hbl.size, hbl.block⟩
      clear hbl
      go_wp2_with fail
      go_region_with (first
        | (go_at_call 54; refine (rof_z _ (s[k].toNat - 48) ?_ ?_).mono ?_; exact HZ.out; exact HZb.out; rintro e w4 ⟨v4, rfl, h4, b4⟩; have h34 := h3.nz.below b4; have B4 := B3.trans (b4.mono B3.size))
        | (go_at_call 54; refine (rof_z _ 10 ?_ ?_).mono ?_; exact rfl; omega; rintro e w2 ⟨v2, rfl, h2, b2⟩; have hv2 := Nz.carry b2 hv rfl; have B2 := Bd.trans (b2.mono Bd.size))
        | (go_at_call 56; refine (rmul_n hv2.nm h2.nm ?_ ?_).mono ?_; exact (show 200 ≤ 1000 by decide); exact (show 2 ≤ 1000 by decide); rintro e w3 ⟨v3, rfl, h3, b3⟩; have B3 := B2.trans (b3.mono B2.size))
        | (go_at_call 48; refine (radd_n h34.nm h4.nm ?_ ?_).mono ?_; exact (show 200 + 2 ≤ 1000 by decide); exact (show 2 ≤ 1000 by decide); rintro e w5 ⟨v5, rfl, h5, b5⟩; have B5 := B4.trans (b5.mono B4.size)))
      all_goals
        go_wp2
        go_roundw
        case rel =>
          refine ⟨k + 1, m * 10 + (s[k].toNat - 48), by omega, by go_num, ?_, Hm2.out, B5⟩
          obtain ⟨l, f1, f2, f3, f4⟩ := h5
          exact ⟨l, f1.mono (fun _ _ => trivial), f2, f3, f2.len_le (by rw [f3, Hm2.out]; exact dec_bound Hn.out _ (by omega))⟩
        case measure => simp [intOf] <;> omega
    · have hm : m = decVal s.data.toList := by
        rw [Hm.out, List.take_of_length_le (by rw [data_len]; omega)]
      go_wp2
      go_ret
      subst hm
      exact ⟨_, rfl, hv, hbl⟩
theorem rparse_long (s : ByteArray) (w : World) (hs : s.size ≤ 1000000) (h : 200 < s.size) :
    Calls Tryd.prog 59 #[.string s] w fun e w' => e = .returned (.tuple #[.slice none 0 0, .int .i64 5]) ∧ w = w' := by
  go_enter Tryd.func59, Tryd.ntmps59
  go_wp2
  go_ret2
  exact ⟨rfl, rfl⟩
theorem rparse_bad (s : ByteArray) (w : World) (h : s.size ≤ 200) (hn : isNum s.data.toList = false) :
    Calls Tryd.prog 59 #[.string s] w fun e w' => e = .returned (.tuple #[.slice none 0 0, .int .i64 2]) ∧ w = w' := by
  have Hn := Lib.hid hn
  clear hn
  go_enter Tryd.func59, Tryd.ntmps59
  go_wp2_with fail
  refine (rdigits_walk s w (by omega)).mono ?_
  rintro e w' ⟨rfl, rfl⟩
  rw [Hn.out]
  go_wp2
  go_ret2
  exact ⟨rfl, rfl⟩
theorem rparse_n (s : ByteArray) (w : World) (h : s.size ≤ 200) (hn : isNum s.data.toList = true) :
    Calls Tryd.prog 59 #[.string s] w (PNEnd (decVal s.data.toList) 200 w) := by
  have Hn := Lib.hid hn
  clear hn
  go_enter Tryd.func59, Tryd.ntmps59
  go_wp2_with fail
  refine (rdigits_walk s w (by omega)).mono ?_
  rintro e w' ⟨rfl, rfl⟩
  rw [Hn.out]
  go_wp2_with fail
  refine (rvalue_n s _ h Hn.out).mono ?_
  rintro e w1 ⟨v, rfl, hz, hb⟩
  go_wp2
  go_ret2
  exact ⟨v, rfl, hz, hb⟩
end Go.Proofs.YthcoemkbdllcfaaDoor
