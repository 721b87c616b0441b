/-
  The walks of natural.word, gcdWords and Gcd.
-/
import Derived.Test.YtldkiolkhpjhbaaDoorDivMod
import Derived.Deep.LoopGhost
namespace Go.Proofs.YtldkiolkhpjhbaaDoor
open Go.RowKit

theorem or_high (x y : Nat) (hx : x < 4294967296) (hy : y < 4294967296) : bits .or .u64 (x : Int) ((y : Int) * 4294967296) = ((y * 4294967296 + x : Nat) : Int) := by
  have h := u64_or_nat x (y * 4294967296) (by omega) (by omega)
  rw [Nat.or_comm, nat_join 32 (y * 4294967296) x (by omega) (by omega)] at h
  rw [← h, Int.natCast_mul]
  rfl
theorem or_zero_ (x : Nat) (hx : x < 4294967296) : bits .or .u64 0 (x : Int) = (x : Int) := by
  have h := u64_or_nat 0 x (by omega) (by omega)
  simpa using h

def WordEnd (m : Nat) (w : World) (e : Ending) (w' : World) : Prop := e = .returned (.int .u64 (m : Int)) ∧ w = w'
set_option maxHeartbeats 1000000 in
theorem word_walk (A : Option Addr) (n c : Nat) (l : List Nat) (w : World) (hn : l.length = n) (hn2 : n ≤ 2) (hA : Cel w (fun _ => True) A l) (hL : Num.Lim l) :
    Calls Tryd.prog 50 #[.slice A n c] w (WordEnd (Num.val l) w) := by
  have Hn := Lib.hid hn
  have HL := Lib.hid hL
  clear hn hL
  go_enter Tryd.func50, Tryd.ntmps50
  go_wp2
  go_loop [3, 8] (fun x i => ∃ k : Nat, k ≤ n ∧ i = .int .i64 k ∧ ∃ m : Nat, x = .int .u64 m ∧ Hid (m = Num.val (l.take k))) (fun _ i => n - (intOf i).toNat)
  case atStart => exact ⟨0, Nat.zero_le _, rfl, 0, rfl, rfl⟩
  case round =>
    obtain ⟨k, hk, rfl, m, rfl, Hm⟩ := hrel
    by_cases hlt : k < n
    · obtain ⟨y, hy⟩ : ∃ y, l[k]? = some y := ⟨_, List.getElem?_eq_getElem (by have := Hn.out; omega)⟩
      have hyb : y < 4294967296 := HL.out.at hy
      obtain ⟨g, off, rfl, _, hc⟩ := hA (by have := Hn.out; omega)
      have hcy := hc _ _ hy
      have Hy := Lib.hid hy
      clear hc hy
      by_cases h0 : k = 0
      · subst h0
        have hor := or_zero_ y hyb
        have hm0 : m = 0 := Hm.out
        subst hm0
        rw [Nat.add_zero] at hcy
        go_wp2
        go_round
        case rel => exact ⟨1, by omega, rfl, y, rfl, by have := val_take_succ l 0 y Hy.out; show y = _; simpa [Num.val] using this.symm⟩
        case measure => simp [intOf] <;> omega
      · obtain rfl : k = 1 := by omega
        obtain ⟨x, hx⟩ : ∃ x, l[0]? = some x := ⟨_, List.getElem?_eq_getElem (by have := Hn.out; omega)⟩
        have hxb : x < 4294967296 := HL.out.at hx
        have hor := or_high x y hxb hyb
        have hv : m = x := by
          have := val_take_succ l 0 x hx
          rw [Hm.out]
          simpa [Num.val] using this
        subst hv
        clear h0
        have Hx := Lib.hid hx
        clear hx
        go_wp2
        go_round
        case rel => exact ⟨2, by omega, rfl, y * 4294967296 + m, int_u64 (by simp), by have := val_take_succ l 1 y Hy.out; show _ = _; rw [this, ← Hm.out, Nat.pow_one, Num.K_eq, Nat.mul_comm, Nat.add_comm]⟩
        case measure => simp [intOf] <;> omega
    · go_wp2
      go_ret
      have e : m = Num.val l := by rw [Hm.out, List.take_of_length_le (by have := Hn.out; omega)]
      rw [← e]
      exact ⟨rfl, rfl⟩

def GcdwEnd (a b : Nat) (w : World) (e : Ending) (w' : World) : Prop := ∃ g : Nat, e = .returned (.int .u64 (g : Int)) ∧ g = Nat.gcd a b ∧ g < 18446744073709551616 ∧ ∃ q, w' = w.drewN q
set_option maxHeartbeats 1000000 in
theorem gcdWords_walk (a b : Nat) (w : World) (ha : a < 18446744073709551616) (hb : b < 18446744073709551616) :
    Calls Tryd.prog 49 #[.int .u64 (a : Int), .int .u64 (b : Int)] w (GcdwEnd a b w) := by
  obtain ⟨G, hG⟩ : ∃ G, Nat.gcd a b = G := ⟨_, rfl⟩
  have HG := Lib.hid hG
  clear hG
  go_enter Tryd.func49, Tryd.ntmps49
  go_wp2
  go_loopw [0, 1] (fun x y wr => ∃ a' b' : Nat, x = .int .u64 a' ∧ y = .int .u64 b' ∧ a' < 18446744073709551616 ∧ b' < 18446744073709551616 ∧ Hid (Nat.gcd a' b' = G) ∧ ∃ q, wr = w.drewN q) (fun _ y _ => (intOf y).toNat)
  case atStart => exact ⟨a, b, rfl, rfl, ha, hb, HG.out, 0, rfl⟩
  case round =>
    obtain ⟨a', b', rfl, rfl, ha', hb', Hg, q, rfl⟩ := hrel
    by_cases h0 : b' = 0
    · subst h0
      go_wp2
      go_ret
      have h1 := Hg.out
      rw [Nat.gcd_zero_right] at h1
      exact ⟨a', rfl, by rw [h1, HG.out], ha', q, rfl⟩
    · have t0 : ((b' : Int) != 0) = true := by simp; omega
      have hpos : 1 ≤ b' := by omega
      have Hn : Hid (Nat.gcd b' (a' % b') = G) := by show _ = _; rw [Nat.gcd_comm, ← Nat.gcd_rec, Nat.gcd_comm]; exact Hg.out
      have hml : a' % b' < b' := Nat.mod_lt _ hpos
      clear h0
      go_wp2
      go_quiet (fail)
      go_wp2
      go_roundw
      case rel => exact ⟨b', a' % b', rfl, int_u64 (by simp), hb', by omega, Hn, by simp only [World.drewN_drewN]; exact ⟨_, rfl⟩⟩
      case measure =>
        simp only [intOf]
        have e : ((a' : Int) % (b' : Int)) = ((a' % b' : Nat) : Int) := by simp
        rw [e]
        omega

theorem Rd.len {w : World} {S : Nat → Prop} {v : Value} {l : List Nat} (h : Rd w S v l) : ∃ A c, v = .slice A l.length c := by
  obtain ⟨A, c, e, _⟩ := h
  exact ⟨A, c, e⟩
theorem Rd.lim {w : World} {S : Nat → Prop} {v : Value} {l : List Nat} (h : Rd w S v l) : Num.Lim l := by
  obtain ⟨_, _, _, _, _, h, _⟩ := h
  exact h
theorem Rd.slice {w : World} {S : Nat → Prop} {A : Option Addr} {n c : Nat} {l : List Nat} (hn : l.length = n) (hnc : n ≤ c) (hc : c ≤ 9223372036854775807) (hL : Num.Lim l) (hA : Cel w S A l) : Rd w S (.slice A n c) l :=
  ⟨A, c, by rw [hn], by omega, hc, hL, hA⟩
/-- A call returns a number in normal form, of value m. -/
def NumEnd (m : Nat) (w : World) (e : Ending) (w' : World) : Prop := ∃ v, e = .returned v ∧ Res w w' v m
/-- What the loop of Gcd keeps. -/
def GcdInv (G : Nat) (w : World) (gk : Nat) (x y : Value) (wr : World) : Prop :=
  ∃ la lb, Rd wr (fun _ => True) x la ∧ Rd wr (fun _ => True) y lb ∧ Num.Nrm la ∧ Num.Nrm lb ∧ Nat.gcd (Num.val la) (Num.val lb) = G ∧ Num.val lb = gk ∧ la.length ≤ 10000000 ∧ lb.length ≤ 10000000 ∧ Below w.heap.size w wr

set_option maxHeartbeats 4000000 in
theorem gcd_walk (va vb : Value) (la lb : List Nat) (w : World) (ha : Rd w (fun _ => True) va la) (hb : Rd w (fun _ => True) vb lb) (hla : la.length ≤ 10000000) (hlb : lb.length ≤ 10000000) :
    Calls Tryd.prog 30 #[va, vb] w (NumEnd (Nat.gcd (Num.val la) (Num.val lb)) w) := by
  obtain ⟨G, hG⟩ : ∃ G, Nat.gcd (Num.val la) (Num.val lb) = G := ⟨_, rfl⟩
  rw [hG]
  have HG := Lib.hid hG
  clear hG
  obtain ⟨A, n, c, rfl, Hn, hnc, hc, HLa, hA⟩ := ha.open_
  obtain ⟨B, m, d, rfl, Hm, hmd, hd, HLb, hB⟩ := hb.open_
  have hn : n ≤ 10000000 := by have := Hn.out; omega
  have hm : m ≤ 10000000 := by have := Hm.out; omega
  clear ha hb hla hlb
  go_enter Tryd.func30, Tryd.ntmps30
  go_wp2_with fail
  refine (trim_walk _ A n c la _ Hn.out.symm hnc hc hA).mono ?_
  rintro e w' ⟨⟨k1, hk1, rfl, hza, hna⟩, rfl⟩
  go_wp2_with fail
  refine (trim_walk _ B m d lb _ Hm.out.symm hmd hd hB).mono ?_
  rintro e w' ⟨⟨k2, hk2, rfl, hzb, hnb⟩, rfl⟩
  have Hva := Lib.hid (hza.val (by have := Hn.out; omega))
  have Hvb := Lib.hid (hzb.val (by have := Hm.out; omega))
  have Hna := Lib.hid hna
  have Hnb := Lib.hid hnb
  clear hza hzb hna hnb
  go_wp2
  go_loopg [0, 1] (Num.val lb) (fun gk x y wr => GcdInv G w gk x y wr)
  case atStart =>
    refine ⟨la.take k1, lb.take k2, ?_, ?_, Hna.out, Hnb.out, ?_, Hvb.out, ?_, ?_, Below.refl _ _⟩
    · exact Rd.slice (by have := Hn.out; rw [List.length_take]; omega) (by omega) hc (HLa.out.take _) (hA.take _)
    · exact Rd.slice (by have := Hm.out; rw [List.length_take]; omega) (by omega) hd (HLb.out.take _) (hB.take _)
    · rw [Hva.out, Hvb.out]; exact HG.out
    · rw [List.length_take]; omega
    · rw [List.length_take]; omega
  case round =>
    clear hA hB
    obtain ⟨l1, l2, hr1, hr2, hn1, hn2, hg, hgk, hl1, hl2, hbl⟩ := hrel
    have Hg := Lib.hid hg
    have Hgk := Lib.hid hgk
    have Hn1 := Lib.hid hn1
    have Hn2 := Lib.hid hn2
    have HLl2 := Lib.hid hr2.lim
    obtain ⟨A1, m1, c1, rfl, Hm1, hmc1, hc1, HL1, hA1⟩ := hr1.open_
    obtain ⟨B2, m2, d2, rfl, Hm2, hmd2, hd2, HL2, hB2⟩ := hr2.open_
    clear hg hgk hn1 hn2
    have hm2b : m2 ≤ 10000000 := by have := Hm2.out; omega
    by_cases hbig : 2 < m2
    · have hpos : 0 < Num.val l2 := by
        rcases Nat.eq_zero_or_pos (Num.val l2) with h0 | h0
        · have h1 := Hn2.out.eq_nil h0
          have h2 := Hm2.out
          rw [h1] at h2
          simp at h2
          omega
        · exact h0
      go_wp2_with fail
      refine (divmod_pos _ _ l1 l2 wr hr1 hr2 hl1 hpos).mono ?_
      rintro e w1 ⟨v1, v2, rfl, _, l3, hr3, hn3, hv3, hb3⟩
      have Hv3 := Lib.hid hv3
      clear hv3
      go_wp2
      go_roundg (Num.val l3)
      case measure =>
        rw [Hv3.out, ← Hgk.out]
        exact Nat.mod_lt _ hpos
      case rel =>
        have hlt : Num.val l3 < Num.val l2 := by rw [Hv3.out]; exact Nat.mod_lt _ hpos
        have hlen := hn3.len_le (Nat.lt_trans hlt (Num.val_lt l2 HL2.out))
        refine ⟨l2, l3, hr2.below hb3, hr3, Hn2.out, hn3, ?_, rfl, hl2, by omega, hbl.trans (hb3.mono hbl.size)⟩
        rw [Hv3.out, Nat.gcd_comm, ← Nat.gcd_rec, Nat.gcd_comm]
        exact Hg.out
    · by_cases h0 : m2 = 0
      · subst h0
        have hz : Num.val l2 = 0 := by rw [List.eq_nil_of_length_eq_zero Hm2.out]; rfl
        have Hz := Lib.hid hz
        clear hz hbig
        go_wp2_with fail
        refine (clone_walk _ A1 m1 c1 l1 _ Hm1.out (by have := Hm1.out; omega) hA1).mono ?_
        rintro e w1 ⟨_, rfl, g, rfl, hg, hown, hb1⟩
        rw [Hm1.out]
        go_wp2
        go_ret
        have h1 := hown.rd (fun _ => True) trivial HL1.out (by have := Hm1.out; omega)
        rw [Hm1.out] at h1
        have h2 := Hg.out
        rw [Hz.out, Nat.gcd_zero_right] at h2
        exact ⟨_, rfl, l1, h1, Hn1.out, h2, hbl.trans (hb1.mono hbl.size)⟩
      · have t0 : ((m2 : Int) == 0) = false := by simp; omega
        have hpos : 0 < Num.val l2 := by
          rcases Nat.eq_zero_or_pos (Num.val l2) with hz | hz
          · have h1 := Hn2.out.eq_nil hz
            have h2 := Hm2.out
            rw [h1] at h2
            simp at h2
            omega
          · exact hz
        clear h0
        go_wp2_with fail
        refine (divmod_pos _ _ l1 l2 wr hr1 hr2 hl1 hpos).mono ?_
        rintro e w1 ⟨v1, v2, rfl, _, l3, hr3, hn3, hv3, hb3⟩
        have Hv3 := Lib.hid hv3
        have Hn3 := Lib.hid hn3
        obtain ⟨A3, m3, c3, rfl, Hm3, hmc3, hc3, HL3, hA3⟩ := hr3.open_
        clear hv3 hn3
        have hlt : Num.val l3 < Num.val l2 := by rw [Hv3.out]; exact Nat.mod_lt _ hpos
        have hlen := Hn3.out.len_le (Nat.lt_trans hlt (Num.val_lt l2 HL2.out))
        have hm3 : m3 ≤ 2 := by have := Hm3.out; have := Hm2.out; omega
        have hK2 : ∀ l : List Nat, Num.Lim l → l.length ≤ 2 → Num.val l < 18446744073709551616 := fun l h1 h2 => by
          have h3 := Num.val_lt l h1
          have h4 : Num.K ^ l.length ≤ Num.K ^ 2 := Nat.pow_le_pow_right Num.K_pos h2
          have h5 : Num.K ^ 2 = 18446744073709551616 := by decide +kernel
          omega
        have hx := hK2 l2 HL2.out (by have := Hm2.out; omega)
        have hy := hK2 l3 HL3.out (by have := Hm3.out; omega)
        clear hK2 hlen
        go_wp2_with fail
        refine (word_walk B2 m2 d2 l2 w1 Hm2.out (by omega) (hB2.below' hb3) HL2.out).mono ?_
        rintro e w' ⟨rfl, rfl⟩
        go_wp2_with fail
        refine (word_walk A3 m3 c3 l3 w1 Hm3.out hm3 hA3 HL3.out).mono ?_
        rintro e w' ⟨rfl, rfl⟩
        go_wp2_with fail
        refine (gcdWords_walk (Num.val l2) (Num.val l3) w1 hx hy).mono ?_
        rintro e w' ⟨gg, rfl, hgg, hggb, q, rfl⟩
        have Hgg := Lib.hid hgg
        clear hgg
        go_wp2_with fail
        refine (of_walk gg _ hggb).mono ?_
        rintro e w4 ⟨v, rfl, l4, hr4, hn4, hv4, hb4⟩
        go_wp2
        go_ret
        refine ⟨v, rfl, l4, hr4, hn4, ?_, ?_⟩
        · rw [hv4, Hgg.out, Hv3.out, Nat.gcd_comm, ← Nat.gcd_rec, Nat.gcd_comm]
          exact Hg.out
        · have h1 : Below w.heap.size w (w1.drewN q) := below_drewN (hbl.trans (hb3.mono hbl.size)) q
          exact h1.trans (hb4.mono h1.size)
end Go.Proofs.YtldkiolkhpjhbaaDoor
