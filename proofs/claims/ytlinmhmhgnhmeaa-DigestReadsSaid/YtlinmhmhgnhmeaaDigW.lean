/-
  The walk of the landed Hex.
-/
import Derived.Test.YtlinmhmhgnhmeaaDigV
namespace Go.Proofs.Ytlinmhmhgnhmeaa
open Go.RowKit Dig
set_option linter.unusedVariables false
theorem info_u8 : (Try.prog.info? 5).map (fun i => (i.zero, i.size, i.bytes)) = some (some (.int .u8 0), 1, 1) := by kernel_rfl
def Bv (c : UInt8) : Value := .int .u8 (c.toNat : Int)
/-- Nought, then the last i digits. -/
def hxz (D i : Nat) : List UInt8 := List.replicate (16 - i) 0 ++ (hx D).drop (16 - i)
theorem hx_len (D : Nat) : (hx D).length = 16 := hxn_length 16 D
theorem hxz_zero (D : Nat) : hxz D 0 = List.replicate 16 0 := by unfold hxz; rw [List.drop_of_length_le (by rw [hx_len]; omega), List.append_nil]
theorem hxz_all (D : Nat) : hxz D 16 = hx D := by unfold hxz; rw [Nat.sub_self, List.replicate_zero, List.drop_zero, List.nil_append]
theorem hxn_at : ∀ (n d j : Nat), j < n → (hxn n d)[j]? = some (dig (d / 16 ^ (n - 1 - j) % 16))
  | 0, d, j, h => by omega
  | n + 1, d, j, h => by
    rw [hxn]
    by_cases h1 : j < n
    · rw [List.getElem?_append_left (by rw [hxn_length]; exact h1), hxn_at n (d / 16) j h1, Nat.div_div_eq_div_mul, show n + 1 - 1 - j = (n - 1 - j) + 1 by omega, Nat.pow_succ, Nat.mul_comm 16]
    · obtain rfl : j = n := by omega
      rw [List.getElem?_append_right (by rw [hxn_length]; omega), hxn_length, Nat.sub_self]
      simp
theorem hxz_set (D i : Nat) (h : i < 16) : (hxz D i).set (15 - i) (dig (D / 16 ^ i % 16)) = hxz D (i + 1) := by
  have h1 := hxn_at 16 D (15 - i) (by omega)
  rw [show 16 - 1 - (15 - i) = i by omega] at h1
  have h2 : (hx D)[15 - i]? = some (dig (D / 16 ^ i % 16)) := h1
  unfold hxz
  have h3 : (hx D).drop (16 - (i + 1)) = dig (D / 16 ^ i % 16) :: (hx D).drop (16 - i) := by
    obtain ⟨h4, h5⟩ := List.getElem?_eq_some_iff.1 h2
    rw [show 16 - (i + 1) = 15 - i by omega, List.drop_eq_getElem_cons h4, h5, show 15 - i + 1 = 16 - i by omega]
  rw [h3, show 16 - i = (15 - i) + 1 by omega, List.replicate_succ', List.append_assoc, List.set_append_right _ _ (by rw [List.length_replicate]; omega), List.length_replicate, Nat.sub_self, show 16 - (i + 1) = 15 - i by omega]
  rfl
theorem hxz_at (D j i : Nat) (h : j < 16) : ∃ z, (hxz D i)[j]? = some z := by
  have hlt : j < (hxz D i).length := by unfold hxz; rw [List.length_append, List.length_drop, hx_len, List.length_replicate]; omega
  exact ⟨_, List.getElem?_eq_getElem hlt⟩
theorem own_conv {w : World} {g : Nat} {l : List UInt8} {e : TypeId} (h : OwV Bv e w g l) (n : Nat) (hn : n = l.length) :
    (convert 40 9 (.slice (some ⟨g, 0, none⟩) n n)).run Try.prog w = .ok (.string (ofL l)) w := by
  subst hn
  exact run_convert_bytes_back (P := Try.prog) w 40 9 5 ⟨g, 0, none⟩ l.length l Try.underlying40 Try.underlying5 Try.underlying9 (by
    intro j hj
    have e1 : ((⟨g, 0, none⟩ : Addr).add j) = ⟨g, j, none⟩ := by simp [Addr.add]; exact Eq.symm
    rw [e1, h.cell j l[j] (List.getElem?_eq_getElem hj)]
    rfl)
set_option maxRecDepth 20000 in
set_option maxHeartbeats 1000000 in
theorem hex_c (D : Nat) (w : World) (ht : Dt w) (hD : D < 18446744073709551616) : Calls Try.prog 23 #[.int .u64 (D : Int)] w (StrEnd (hx D) w) := by
  obtain ⟨i0, hi, hz0, hz1, hz2⟩ := info_parts info_u8
  go_enter Try.func23, Try.ntmps23
  go_wp2_with (at_make; refine wpList_make_v Bv 0 _ rfl _ _ 40 rfl 5 i0 (.int .u8 0) Try.underlying40 hi hz0 hz1 (by omega) rfl rfl .i64 .i64 16 16 16 rfl rfl rfl rfl (by omega) ?_; intro g w1 hg1 hown1 B0 hs1; have Hg := Lib.hid hg1; clear hg1)
  have hU : OwV Bv 5 w1 g (hxz D 0) := by rw [hxz_zero]; exact hown1
  have hG : Hid (w.heap.size ≤ g) := by have := Hg.out; show _ ≤ _; omega
  clear hown1
  go_loopw [0, 8] (fun y z wr => ∃ i d : Nat, i ≤ 16 ∧ z = .int .i64 (i : Int) ∧ y = .int .u64 (d : Int) ∧ d < 18446744073709551616 ∧ Hid (d = D / 16 ^ i) ∧ OwV Bv 5 wr g (hxz D i) ∧ Below w.heap.size w wr) (fun _ z _ => 16 - (intOf z).toNat)
  case atStart => exact ⟨0, D, Nat.zero_le _, rfl, rfl, hD, Lib.hid (by rw [Nat.pow_zero, Nat.div_one]), hU, B0⟩
  case round =>
    clear B0 hU hs1 hD
    obtain ⟨i, d, hile, rfl, rfl, hd, hD, hU, B0⟩ := hrel
    by_cases hlt : i < 16
    · obtain ⟨k, hk⟩ : ∃ k, d % 16 = k := ⟨_, rfl⟩
      have hk16 : k < 16 := by omega
      have hmod : (d : Int) % 16 = (k : Int) := by omega
      have hdg := digits_at k hk16
      have hS : Hid ((hxz D i).set (15 - i) (dig k) = hxz D (i + 1)) := by
        show _ = _
        rw [← hk, hD.out]
        exact hxz_set D i hlt
      have hd2 : Hid (d / 16 = D / 16 ^ (i + 1)) := by
        show _ = _
        rw [hD.out, Nat.pow_succ, Nat.div_div_eq_div_mul]
      obtain ⟨z, hz⟩ := hxz_at D (15 - i) i (by omega)
      have hc2 := hU.cell _ z hz
      have hfr := hU.frozen (15 - i)
      have hsub : ((15 : Int) - (i : Int)) = ((15 - i : Nat) : Int) := by omega
      have hle : 15 - i < 16 := by omega
      clear hk
      obtain ⟨j, hj⟩ : ∃ j, 15 - i = j := ⟨_, rfl⟩
      rw [hj] at hS hc2 hfr hsub hle
      have i1 : (0 : Int) ≤ (k : Int) := by omega
      have i2 : (k : Int) < 16 := by omega
      clear hj
      go_wp2
      go_roundw
      case rel => exact ⟨i + 1, d / 16, by omega, by go_num, by go_num, by omega, hd2, by rw [← hS.out]; exact hU.set_ j (dig k) _ (by rw [← hdg]; rfl), B0.setCell hG.out _⟩
      case measure => simp [intOf]; omega
    · obtain rfl : i = 16 := by omega
      rw [hxz_all] at hU
      have hcv := own_conv hU 16 (hx_len D).symm
      go_wp2
      go_ret
      exact ⟨rfl, B0⟩
end Go.Proofs.Ytlinmhmhgnhmeaa
