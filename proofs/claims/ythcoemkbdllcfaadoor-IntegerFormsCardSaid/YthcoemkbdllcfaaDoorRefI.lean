/-
  The walk of garmentref01.Text.
-/
import Derived.Test.YthcoemkbdllcfaaDoorRefH
import Derived.Test.YthcoemkbdllcfaaDoorReadK
namespace Go.Proofs.YthcoemkbdllcfaaDoor
open Go.RowKit

def decD (m : Nat) : List UInt8 := if m = 0 then [] else Lib.decDigits m
theorem decD_step (m d : Nat) (hm : 0 < m) (hd : m % 10 = d) : decD m = decD (m / 10) ++ [UInt8.ofNat (48 + d)] := by
  subst hd
  unfold decD
  rw [if_neg (by omega)]
  by_cases h : m < 10
  · rw [if_pos (by omega), Lib.decDigits_one h, Nat.mod_eq_of_lt h]
    rfl
  · rw [if_neg (by omega), Txt.dec_big m h]
def SmdEnd (a k : Nat) (w : World) (e : Ending) (w' : World) : Prop := ∃ (v : Value) (d : Nat), a % 10 = d ∧ d < 10 ∧ e = .returned (.tuple #[v, .int .u64 (d : Int)]) ∧ Nz w' v (a / 10) k ∧ Below w.heap.size w w'
theorem rsmall_d {w : World} {va : Value} {a k : Nat} (ha : Nm w va a k) (hk : k ≤ 1000) : Calls Tryd.prog 82 #[va, .int .u64 10] w (SmdEnd a k w) :=
  (rsmall_n ha hk).mono fun _ _ ⟨v, he, h1, h2⟩ => ⟨v, a % 10, rfl, Nat.mod_lt _ (by omega), he, h1, h2⟩
theorem str_ext {s t : ByteArray} (h : s.data.toList = t.data.toList) : s = t := by
  cases s with | mk x => cases t with | mk y =>
  rw [ByteArray.mk.injEq]
  exact Array.toList_inj.1 h
theorem text_end {s t : ByteArray} {a : Nat} (h : decD a = decD 0 ++ s.data.toList) (ht : t.data.toList = Lib.decDigits a) : (s.toList.isEmpty = false → s = t) ∧ (s.toList.isEmpty = true → (⟨#[48]⟩ : ByteArray) = t) := by
  have h0 : decD a = s.data.toList := by rw [h]; simp [decD]
  rw [ByteArray.toList_eq]
  by_cases ha : a = 0
  · subst ha
    have h1 : s.data.toList = [] := by rw [← h0]; simp [decD]
    rw [h1]
    refine ⟨by simp, fun _ => str_ext ?_⟩
    rw [ht, Lib.decDigits_one (by omega)]
    rfl
  · unfold decD at h0
    rw [if_neg ha] at h0
    refine ⟨fun _ => str_ext (by rw [ht, ← h0]), fun hc => absurd hc ?_⟩
    rw [← h0]
    simpa using Txt.dec_ne a
theorem bytes_conv (W : World) (z : Int) (d : Nat) (hz : z = ((48 + d : Nat) : Int)) (hd : d < 10) (g : Nat) (hg : g = W.heap.size) :
    (convert 78 9 (.slice (some ⟨g, 0, none⟩) 1 1)).run Tryd.prog (W.alloc (.cells #[.int .u8 z] 5)) = .ok (.string ⟨#[UInt8.ofNat (48 + d)]⟩) (W.alloc (.cells #[.int .u8 z] 5)) := by
  subst hz
  subst hg
  have h := run_convert_bytes_back (P := Tryd.prog) (W.alloc (.cells #[.int .u8 ((48 + d : Nat) : Int)] 5)) 78 9 5 ⟨W.heap.size, 0, none⟩ 1 [UInt8.ofNat (48 + d)] Tryd.underlying78 Tryd.underlying5 Tryd.underlying9 (by
    intro j hj
    have hj0 : j = 0 := by simp at hj; omega
    subst hj0
    have e1 : ((⟨W.heap.size, 0, none⟩ : Addr).add 0) = ⟨W.heap.size, 0, none⟩ := rfl
    rw [e1, World.cell?_alloc_mark]
    simp only [List.getElem_cons_zero, Txt.chr d hd]
    rfl)
  exact h
/-- The loop of Text; gk: the number that is left. -/
def TxInv (a k : Nat) (w : World) (gk : Nat) (sv vn : Value) (wr : World) : Prop :=
  ∃ s : ByteArray, sv = .string s ∧ Nz wr vn gk k ∧ decD a = decD gk ++ s.data.toList ∧ Below w.heap.size w wr

set_option maxRecDepth 4000 in
set_option maxHeartbeats 2000000 in
theorem rtext_n {w : World} {va : Value} {a k : Nat} (ha : Nm w va a k) (hk : k ≤ 1000) (t : ByteArray) (ht : t.data.toList = Lib.decDigits a) : Calls Tryd.prog 61 #[va] w (StrEnd t w) := by
  have Ht := Lib.hid ht
  have Hlen : Hid ((decD a).length ≤ 10 * k + 10) := by
    show _ ≤ _
    have h1 : a < 10 ^ (10 * k + 10) := by
      have h2 : Num.K ^ k ≤ (10 ^ 10) ^ k := Nat.pow_le_pow_left (by decide) k
      rw [← Nat.pow_mul] at h2
      exact Nat.lt_of_lt_of_le ha.lt (Nat.le_trans h2 (Nat.pow_le_pow_right (by omega) (by omega)))
    unfold decD
    split
    · simp
    · exact Txt.dec_length_le a _ h1 (by omega)
  clear ht
  go_enter Tryd.func61, Tryd.ntmps61
  go_wp2_with fail
  refine (rnorm_n ha hk).mono ?_
  rintro e w1 ⟨vn, rfl, hn1, b1⟩
  have hn1 := hn1.nz
  clear ha
  go_wp2
  go_loopg [3, 4] a (fun gk sv vn wr => TxInv a k w gk sv vn wr)
  case atStart => exact ⟨ByteArray.empty, rfl, hn1, by rw [show (ByteArray.empty : ByteArray).data.toList = [] from rfl, List.append_nil], b1⟩
  case round =>
    obtain ⟨s, rfl, hn, hdec, hbl⟩ := hrel
    have Hdec := Lib.hid hdec
    clear hdec hn1 b1
    by_cases h0 : gk = 0
    · subst h0
      obtain ⟨A, c, rfl⟩ := hn.empty
      clear hn
      have He := Lib.hid (text_end Hdec.out Ht.out)
      by_cases hs0 : s.toList.isEmpty = true
      · go_wp2
        go_ret
        exact ⟨by rw [← He.out.2 hs0]; rfl, hbl⟩
      · have hs1 : s.toList.isEmpty = false := by simpa using hs0
        clear hs0
        go_wp2
        go_ret
        exact ⟨by rw [← He.out.1 hs1]; rfl, hbl⟩
    · have hpos : 0 < gk := by omega
      obtain ⟨A, n, c, rfl, hn0⟩ := hn.some hpos
      have Hpos := Lib.hid hpos
      clear hpos h0
      go_wp2_with fail
      refine (rsmall_d hn.nm hk).mono ?_
      rintro e w3 ⟨v1, d, hd, hd10, rfl, h1, b3⟩
      have Hd := Lib.hid hd
      have hsz : s.size ≤ 20000 := by
        have h1 := congrArg List.length Hdec.out
        rw [List.length_append] at h1
        have h2 := Hlen.out
        have h3 : s.data.toList.length = s.size := by simp
        omega
      have hcv := bytes_conv w3 (48 + (d : Int)) d (by omega) hd10 w3.heap.size rfl
      obtain ⟨ch, hch⟩ : ∃ ch, ch = UInt8.ofNat (48 + d) := ⟨_, rfl⟩
      rw [← hch] at hcv
      have Hch := Lib.hid hch
      clear hch
      have B3 := hbl.trans (b3.mono hbl.size)
      clear hd hn hbl b3
      go_wp2
      go_roundg (gk / 10)
      case measure => have := Hpos.out; omega
      case rel =>
        refine ⟨_, rfl, h1.below (below_alloc _ _), ?_, B3.trans ((below_alloc _ _).mono B3.size)⟩
        have e1 : ((⟨#[ch]⟩ : ByteArray) ++ s).data.toList = [ch] ++ s.data.toList := by
          rw [ByteArray.data_append, Array.toList_append]
        rw [e1, ← List.append_assoc, Hch.out, ← decD_step gk d Hpos.out Hd.out]
        exact Hdec.out
end Go.Proofs.YthcoemkbdllcfaaDoor
