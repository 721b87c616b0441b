/-
  The walks of the reference's begins and text.
-/
import Derived.Test.YtmklladpalcjpaaDoorCodZ
namespace Go.Proofs.YtmklladpalcjpaaDoor
open Go.RowKit Cod
set_option linter.unusedVariables false

/-- What a function that reads a node returns: the node, the place behind it and no error; or the zero value, 0 and an error. -/
def ResEnd (L : List UInt8) (R : Except Nat (Nd × List UInt8)) (w : World) (e : Ending) (w' : World) : Prop :=
  ∃ (l : Bool) (t : ByteArray) (A : Option Addr) (m c p er : Nat), e = .returned (.tuple #[.agg #[.bool l, .string t, .slice A m c], .int .i64 (p : Int), .int .i64 (er : Int)]) ∧ Below w.heap.size w w' ∧
    match R with
    | .ok (n, r) => er = 0 ∧ RdM (fun g => w.heap.size ≤ g) w' n (.agg #[.bool l, .string t, .slice A m c]) ∧ r = L.drop p ∧ p ≤ L.length
    | .error x => er = x ∧ p = 0 ∧ l = false ∧ t = ⟨#[]⟩ ∧ A = none ∧ m = 0 ∧ c = 0
theorem byte_L (s : ByteArray) (k : Nat) (h : k < s.size) : s.data.toList[k]? = some s[k] := by
  rw [Array.getElem?_toList]
  exact Array.getElem?_eq_getElem h
theorem drop_L (s : ByteArray) (k : Nat) (h : k < s.size) : s.data.toList.drop k = s[k] :: s.data.toList.drop (k + 1) := by
  have h1 : k < s.data.toList.length := by simpa using h
  rw [List.drop_eq_getElem_cons h1]
  congr 1
set_option maxRecDepth 20000 in
theorem begins_walk (c : UInt8) (w : World) : Calls Tryd.prog 29 #[.int .u8 (c.toNat : Int)] w fun e w' => e = .returned (.bool (begins c)) ∧ w = w' := by
  go_enter Tryd.func29, Tryd.ntmps29
  by_cases h1 : (c.toNat : Int) = 40
  · have hb : Hid (begins c = true) := by
      have : c = 40 := UInt8.toNat_inj.1 (by have : (40 : UInt8).toNat = 40 := rfl; omega)
      rw [this]; rfl
    go_wp2
    go_ret
    rw [hb.out]
    exact ⟨rfl, rfl⟩
  · have h1' : ((c.toNat : Int) == 40) = false := by simp [h1]
    by_cases h2 : (c.toNat : Int) < 48
    · have hb : Hid (begins c = false) := by
        show (c == 40 || isD c) = false
        have : ¬ c = 40 := fun e => h1 (by rw [e]; rfl)
        simp [this, isD]
        omega
      go_wp2
      go_ret
      rw [hb.out]
      exact ⟨rfl, rfl⟩
    · by_cases h3 : (57 : Int) < (c.toNat : Int)
      · have hb : Hid (begins c = false) := by
          show (c == 40 || isD c) = false
          have : ¬ c = 40 := fun e => h1 (by rw [e]; rfl)
          simp [this, isD]
          omega
        have h3' : decide ((c.toNat : Int) ≤ 57) = false := decide_eq_false (by omega)
        go_wp2
        go_ret
        rw [hb.out]
        exact ⟨rfl, rfl⟩
      · have hb : Hid (begins c = true) := by
          show (c == 40 || isD c) = true
          simp [isD]
          omega
        go_wp2
        go_ret
        rw [hb.out]
        exact ⟨rfl, rfl⟩

/-- Between the rounds of text: what is read as a length from at on is what is read from i on behind N. -/
def TxA (s : ByteArray) (p N i : Nat) : Prop := ∃ q, pD 0 0 (s.data.toList.drop p) = pD N q (s.data.toList.drop i) ∧ (q = 1 ↔ i = p + 1 ∧ s.data.toList[p]? = some 48) ∧ (q = 0 ↔ i = p)
theorem TxA.start (s : ByteArray) (p : Nat) : TxA s p 0 p := ⟨0, rfl, by omega, by omega⟩
/-- A digit that goes on. -/
theorem TxA.step {s : ByteArray} {p N i : Nat} (h : TxA s p N i) (hi : i < s.size) (hp : p ≤ i) (hd : isD s[i] = true) (hq : ¬ (i = p + 1 ∧ s.data.toList[p]? = some 48)) (hb : 10 * N + (s[i].toNat - 48) ≤ 20000) : TxA s p (10 * N + (s[i].toNat - 48)) (i + 1) := by
  obtain ⟨q, h1, h2, h3⟩ := h
  have hq1 : ¬ q = 1 := fun e => hq (h2.1 e)
  rw [drop_L s i hi, pD, if_pos hd, if_neg hq1, if_neg (by omega)] at h1
  refine ⟨_, h1, ?_, ?_⟩
  · by_cases hc : q = 0 ∧ s[i] = 48
    · rw [if_pos hc]
      have e := h3.1 hc.1
      refine ⟨fun _ => ⟨by omega, ?_⟩, fun _ => rfl⟩
      rw [← e, byte_L s i hi, hc.2]
    · rw [if_neg hc]
      refine ⟨fun h => by omega, fun ⟨h4, h5⟩ => ?_⟩
      exfalso
      have e : i = p := by omega
      subst e
      rw [byte_L s i hi] at h5
      exact hc ⟨h3.2 rfl, Option.some.inj h5⟩
  · split <;> omega
theorem TxA.two {s : ByteArray} {p N i : Nat} (h : TxA s p N i) (hi : i < s.size) (hd : isD s[i] = true) (hq : i = p + 1 ∧ s.data.toList[p]? = some 48) : pD 0 0 (s.data.toList.drop p) = .error 2 := by
  obtain ⟨q, h1, h2, h3⟩ := h
  rw [h1, drop_L s i hi, pD, if_pos hd, if_pos (h2.2 hq)]
theorem TxA.five {s : ByteArray} {p N i : Nat} (h : TxA s p N i) (hi : i < s.size) (hd : isD s[i] = true) (hq : ¬ (i = p + 1 ∧ s.data.toList[p]? = some 48)) (hb : 20000 < 10 * N + (s[i].toNat - 48)) : pD 0 0 (s.data.toList.drop p) = .error 5 := by
  obtain ⟨q, h1, h2, h3⟩ := h
  rw [h1, drop_L s i hi, pD, if_pos hd, if_neg (fun e => hq (h2.1 e)), if_pos hb]
theorem TxA.four {s : ByteArray} {p N i : Nat} (h : TxA s p N i) (hi : s.size ≤ i) : pD 0 0 (s.data.toList.drop p) = .error 4 := by
  obtain ⟨q, h1, h2, h3⟩ := h
  rw [h1, List.drop_eq_nil_of_le (by simpa using hi), pD]
theorem TxA.other {s : ByteArray} {p N i : Nat} (h : TxA s p N i) (hi : i < s.size) (hd : isD s[i] = false) (hc : ¬ s[i] = 58) : pD 0 0 (s.data.toList.drop p) = .error 2 := by
  obtain ⟨q, h1, h2, h3⟩ := h
  rw [h1, drop_L s i hi, pD, if_neg (by simp [hd]), if_neg hc]
theorem TxA.colon {s : ByteArray} {p N i : Nat} (h : TxA s p N i) (hi : i < s.size) (hc : s[i] = 58) : pD 0 0 (s.data.toList.drop p) = .ok (N, s.data.toList.drop (i + 1)) := by
  obtain ⟨q, h1, h2, h3⟩ := h
  rw [h1, drop_L s i hi, pD, hc, if_neg (by decide), if_pos rfl]
theorem pT_err {s : List UInt8} {x : Nat} (h : pD 0 0 s = .error x) : pT s = .error x := by unfold pT; rw [h]
theorem pT_four {s r : List UInt8} {n : Nat} (h : pD 0 0 s = .ok (n, r)) (hl : r.length < n) : pT s = .error 4 := by
  unfold pT
  rw [h]
  exact if_pos hl
theorem pT_yes {s r : List UInt8} {n : Nat} (h : pD 0 0 s = .ok (n, r)) (hl : ¬ r.length < n) : pT s = .ok (.mk false (r.take n) [], r.drop n) := by
  unfold pT
  rw [h]
  exact if_neg hl
theorem ResEnd.err {L : List UInt8} {R : Except Nat (Nd × List UInt8)} {w w' : World} {x : Nat} (hR : R = .error x) (hB : Below w.heap.size w w') : ResEnd L R w (.returned (.tuple #[.agg #[.bool false, .string ⟨#[]⟩, .slice none 0 0], .int .i64 0, .int .i64 (x : Int)])) w' := by
  subst hR
  exact ⟨_, _, _, _, _, 0, x, rfl, hB, rfl, rfl, rfl, rfl, rfl, rfl, rfl⟩
theorem extract_L (s : ByteArray) (a n : Nat) : s.extract a (a + n) = ofL ((s.data.toList.drop a).take n) := by
  have h : (s.extract a (a + n)).data.toList = (s.data.toList.drop a).take n := by
    rw [ByteArray.data_extract, Array.toList_extract]
    simp [List.extract]
  rw [← h, ofL_eq]
theorem text_end (s : ByteArray) (i N : Nat) (X : ByteArray) (hX : s.extract (i + 1) (i + 1 + N) = X) {R : Except Nat (Nd × List UInt8)} {w w' : World} (hR : R = .ok (.mk false ((s.data.toList.drop (i + 1)).take N) [], (s.data.toList.drop (i + 1)).drop N)) (hl : i + 1 + N ≤ s.size) (hs : s.size ≤ 20000) (hB : Below w.heap.size w w') :
    ResEnd s.data.toList R w (.returned (.tuple #[.agg #[.bool false, .string X, .slice none 0 0], .int .i64 ((i : Int) + 1 + (N : Int)), .int .i64 0])) w' := by
  subst hR hX
  refine ⟨_, _, _, _, _, i + 1 + N, 0, by rw [show ((i + 1 + N : Nat) : Int) = (i : Int) + 1 + (N : Int) by omega]; rfl, hB, rfl, ?_, by rw [List.drop_drop], by simpa using hl⟩
  rw [extract_L]
  refine RdM.of_parts (RdMS.nil _ w') ?_
  rw [List.length_take, List.length_drop]
  have : s.data.toList.length = s.size := by simp
  omega
set_option maxRecDepth 20000 in
set_option maxHeartbeats 2000000 in
theorem rtext_walk (s : ByteArray) (p : Nat) (w : World) (hs : s.size ≤ 20000) (hp : p ≤ s.size) :
    Calls Tryd.prog 30 #[.string s, .int .i64 (p : Int)] w (ResEnd s.data.toList (pT (s.data.toList.drop p)) w) := by
  have B0 := up_1 w (.cells #[.bool false, .string ⟨#[]⟩, .slice none 0 0] 25)
  have kr := Bn.new w (.bool false) (.string ⟨#[]⟩) (.slice none 0 0) 25
  have k0 := kr.1
  have k1 := kr.2.1
  have k2 := kr.2.2.1
  go_enter Tryd.func30, Tryd.ntmps30
  go_wp2
  go_loop [7, 8] (fun y z => ∃ i N : Nat, p ≤ i ∧ i ≤ s.size ∧ z = .int .i64 (i : Int) ∧ y = .int .i64 (N : Int) ∧ N ≤ 20000 ∧ Hid (TxA s p N i)) (fun _ z => s.size - (intOf z).toNat)
  case atStart => exact ⟨p, 0, Nat.le_refl _, hp, rfl, by go_num, by omega, TxA.start s p⟩
  case round =>
    obtain ⟨i, N, hpi, hi, rfl, rfl, hN, hA⟩ := hrel
    by_cases hlt : i < s.size
    · by_cases hd1 : (s[i].toNat : Int) < 48
      · have hc' : ¬ s[i] = 58 := fun e => by
          rw [e] at hd1
          exact absurd hd1 (by decide)
        have hT := Lib.hid (pT_err (hA.out.other hlt (by simp [isD]; omega) hc'))
        clear hc'
        go_wp2
        refine bodyPost_ret (v := .tuple #[.agg #[.bool false, .string ⟨#[]⟩, .slice none 0 0], .int .i64 0, .int .i64 2]) (by simp [results, Tryd.results30, go_sem, k0, k1, k2]) rfl (ResEnd.err hT.out B0)
      · by_cases hd2 : (57 : Int) < (s[i].toNat : Int)
        · by_cases hc : (s[i].toNat : Int) = 58
          · have hc' : s[i] = 58 := UInt8.toNat_inj.1 (by have : (58 : UInt8).toNat = 58 := rfl; omega)
            have hC := Lib.hid (hA.out.colon hlt hc')
            clear hc'
            by_cases hl : s.size - i - 1 < N
            · have hT := Lib.hid (pT_four hC.out (by simp; omega))
              go_wp2
              refine bodyPost_ret (v := .tuple #[.agg #[.bool false, .string ⟨#[]⟩, .slice none 0 0], .int .i64 0, .int .i64 4]) (by simp [results, Tryd.results30, go_sem, k0, k1, k2]) rfl (ResEnd.err hT.out B0)
            · have hT := Lib.hid (pT_yes hC.out (by simp; omega))
              have hl' : i + 1 + N ≤ s.size := by omega
              obtain ⟨X, hX⟩ : ∃ X, s.extract (i + 1) (i + 1 + N) = X := ⟨_, rfl⟩
              have HX := Lib.hid hX
              have BX := up_1 w (.cells #[.bool false, .string X, .slice none 0 0] 25)
              have kx := Bn.new w (.bool false) (.string X) (.slice none 0 0) 25
              have x0 := kx.1
              have x1 := kx.2.1
              have x2 := kx.2.2.1
              go_wp2
              refine bodyPost_ret (v := .tuple #[.agg #[.bool false, .string X, .slice none 0 0], .int .i64 ((i : Int) + 1 + (N : Int)), .int .i64 0]) (by simp [results, Tryd.results30, go_sem, x0, x1, x2]) rfl (text_end s i N X HX.out hT.out hl' hs BX)
          · have hT := Lib.hid (pT_err (hA.out.other hlt (by simp [isD]; omega) (fun e => hc (by rw [e]; rfl))))
            go_wp2
            refine bodyPost_ret (v := .tuple #[.agg #[.bool false, .string ⟨#[]⟩, .slice none 0 0], .int .i64 0, .int .i64 2]) (by simp [results, Tryd.results30, go_sem, k0, k1, k2]) rfl (ResEnd.err hT.out B0)
        · have hD : Hid (isD s[i] = true) := by show _ = _; simp [isD]; omega
          by_cases hq1 : i = p + 1
          · have hp1 : p < s.size := by omega
            have Hq1 := Lib.hid hq1
            have hq1b : ((i : Int) == (p : Int) + 1) = true := by simp; omega
            clear hq1
            by_cases hq2 : (s[p].toNat : Int) = 48
            · have hq2b : ((s[p].toNat : Int) == 48) = true := by simp [hq2]
              have hT := Lib.hid (pT_err (hA.out.two hlt hD.out ⟨Hq1.out, by rw [byte_L s p hp1, show s[p] = 48 from UInt8.toNat_inj.1 (by have : (48 : UInt8).toNat = 48 := rfl; omega)]⟩))
              go_wp2
              refine bodyPost_ret (v := .tuple #[.agg #[.bool false, .string ⟨#[]⟩, .slice none 0 0], .int .i64 0, .int .i64 2]) (by simp [results, Tryd.results30, go_sem, k0, k1, k2]) rfl (ResEnd.err hT.out B0)
            · have hq2b : ((s[p].toNat : Int) == 48) = false := by simp [hq2]
              have hQ : Hid (¬ (i = p + 1 ∧ s.data.toList[p]? = some 48)) := fun ⟨_, h⟩ => hq2 (by rw [byte_L s p hp1] at h; rw [Option.some.inj h]; rfl)
              by_cases hb : 20000 < 10 * N + (s[i].toNat - 48)
              · have hT := Lib.hid (pT_err (hA.out.five hlt hD.out hQ.out hb))
                go_wp2
                refine bodyPost_ret (v := .tuple #[.agg #[.bool false, .string ⟨#[]⟩, .slice none 0 0], .int .i64 0, .int .i64 5]) (by simp [results, Tryd.results30, go_sem, k0, k1, k2]) rfl (ResEnd.err hT.out B0)
              · have hS := Lib.hid (hA.out.step hlt hpi hD.out hQ.out (by omega))
                go_wp2
                go_round
                case rel => exact ⟨i + 1, 10 * N + (s[i].toNat - 48), by omega, by omega, by go_num, by go_num, by omega, hS⟩
                case measure => simp [intOf]; omega
          · have hq1b : ((i : Int) == (p : Int) + 1) = false := by simp; omega
            have hQ : Hid (¬ (i = p + 1 ∧ s.data.toList[p]? = some 48)) := fun ⟨h, _⟩ => hq1 h
            by_cases hb : 20000 < 10 * N + (s[i].toNat - 48)
            · have hT := Lib.hid (pT_err (hA.out.five hlt hD.out hQ.out hb))
              go_wp2
              refine bodyPost_ret (v := .tuple #[.agg #[.bool false, .string ⟨#[]⟩, .slice none 0 0], .int .i64 0, .int .i64 5]) (by simp [results, Tryd.results30, go_sem, k0, k1, k2]) rfl (ResEnd.err hT.out B0)
            · have hS := Lib.hid (hA.out.step hlt hpi hD.out hQ.out (by omega))
              go_wp2
              go_round
              case rel => exact ⟨i + 1, 10 * N + (s[i].toNat - 48), by omega, by omega, by go_num, by go_num, by omega, hS⟩
              case measure => simp [intOf]; omega
    · have hT := Lib.hid (pT_err (hA.out.four (by omega)))
      go_wp2
      refine bodyPost_ret (v := .tuple #[.agg #[.bool false, .string ⟨#[]⟩, .slice none 0 0], .int .i64 0, .int .i64 4]) (by simp [results, Tryd.results30, go_sem, k0, k1, k2]) rfl (ResEnd.err hT.out B0)
end Go.Proofs.YtmklladpalcjpaaDoor
