/-
  The walks of draws' functions that make no list, and of the reference's: each returns the numbers of DraS's words, whatever the state and the number.
-/
import Derived.Test.YthkgmjbjiiddhaaDraS
import Derived.Test.YthkgmjbjiiddhaaDraM
import Derived.Test.YthkgmjbjiiddhaaRows
import Derived.WalkKit
import Derived.WalkSpells
import Derived.Lib.Hide
import Derived.BigQuiet
import Derived.Deep.QuietTactic
import Derived.LoopTactic
import Derived.Deep.RegionWith
import Derived.Deep.RegionHeld3
import Derived.Deep.DrawnRows
namespace Go.Proofs.Ythkgmjbjiiddhaa
open Go.RowKit Dra
set_option linter.unusedVariables false

theorem w64 (x : Int) : IntKind.u64.wrap x = x % 18446744073709551616 := by simp [IntKind.wrap, IntKind.bits, IntKind.signed]
theorem af_wrap (m a d : Nat) : IntKind.u64.wrap (IntKind.u64.wrap ((d : Int) * (m : Int)) + (a : Int)) = ((af 18446744073709551616 m a d : Nat) : Int) := by
  rw [w64, w64, Int.emod_add_emod]
  unfold af
  omega
theorem af_lt (m a d : Nat) : af 18446744073709551616 m a d < 18446744073709551616 := Nat.mod_lt _ (by omega)
theorem nx_wrap (d : Nat) : IntKind.u64.wrap (IntKind.u64.wrap ((d : Int) * 6364136223846793005) + 1442695040888963407) = (nx d : Int) := by
  unfold nx
  exact af_wrap 6364136223846793005 1442695040888963407 d
theorem num_wrap (x : Nat) (h : x < 18446744073709551616) : wrap64 (IntKind.u64.wrap (((x : Nat) : Int).tdiv 8589934592)) = ((x / 8589934592 : Nat) : Int) := by
  rw [w64, Int.tdiv_eq_ediv_of_nonneg (by omega), Int.emod_eq_of_lt (by omega) (by omega)]
  unfold wrap64
  omega
theorem cell_new (w : World) (c : Array Value) (e : TypeId) (j : Nat) : (w.alloc (.cells c e)).cell? ⟨w.heap.size, j, none⟩ = c[j]? :=
  cell_of_row _ _ _ _ e (0, 0) (by simp only [World.alloc, Array.getElem?_push_size])
/-- A box of two cells: a step of the generator. -/
def Bs (w : World) (g : Nat) (v0 v1 : Value) : Prop := w.cell? ⟨g, 0, none⟩ = some v0 ∧ w.cell? ⟨g, 1, none⟩ = some v1 ∧ w.frozen? ⟨g, 0, none⟩ = false ∧ w.frozen? ⟨g, 1, none⟩ = false
theorem Bs.lt {w : World} {g : Nat} {v0 v1 : Value} (h : Bs w g v0 v1) : g < w.heap.size := World.block_lt_of_cell? w _ h.1
theorem Bs.below {w w' : World} {g : Nat} {v0 v1 : Value} (h : Bs w g v0 v1) (hb : Below w.heap.size w w') : Bs w' g v0 v1 :=
  ⟨(hb.cell (p := ⟨g, 0, none⟩) h.lt).trans h.1, (hb.cell (p := ⟨g, 1, none⟩) h.lt).trans h.2.1, (hb.frozen (p := ⟨g, 0, none⟩) h.lt).trans h.2.2.1, (hb.frozen (p := ⟨g, 1, none⟩) h.lt).trans h.2.2.2⟩
theorem Bs.new (w : World) (v0 v1 : Value) (e : TypeId) : Bs (w.alloc (.cells #[v0, v1] e)) w.heap.size v0 v1 := ⟨by simp, by simp, by simp, by simp⟩
theorem Bs.ret {w : World} {g r : Nat} {v0 v1 : Value} (h : Bs w g v0 v1) (hne : g ≠ r) (a b : Value) : Bs ((w.setCell ⟨r, 0, none⟩ a).setCell ⟨r, 1, none⟩ b) g v0 v1 := by
  have e : ∀ i j : Nat, (⟨r, i, none⟩ : Addr) ≠ ⟨g, j, none⟩ := fun i j h => hne (Addr.mk.inj h).1.symm
  exact ⟨(World.cell?_setCell_other _ _ _ _ (e _ _)).trans ((World.cell?_setCell_other _ _ _ _ (e _ _)).trans h.1), (World.cell?_setCell_other _ _ _ _ (e _ _)).trans ((World.cell?_setCell_other _ _ _ _ (e _ _)).trans h.2.1), by simpa using h.2.2.1, by simpa using h.2.2.2⟩
theorem Bs.put {w : World} {g : Nat} {v0 v1 : Value} (h : Bs w g v0 v1) (a b : Value) : Bs ((w.setCell ⟨g, 0, none⟩ a).setCell ⟨g, 1, none⟩ b) g a b := by
  exact ⟨(World.cell?_setCell_other _ _ _ _ (by simp)).trans (World.cell?_setCell_same _ _ _ h.1), World.cell?_setCell_same (u := v1) _ _ _ ((World.cell?_setCell_other _ _ _ _ (by simp)).trans h.2.1), by simpa using h.2.2.1, by simpa using h.2.2.2⟩
theorem Bs.drew {w : World} {g : Nat} {v0 v1 : Value} (h : Bs w g v0 v1) : Bs w.drew g v0 v1 := h
theorem bs_a2 (w : World) (o p : Obj) : Below w.heap.size w ((w.alloc o).alloc p) := ((Below.refl _ w).alloc (Nat.le_refl _) o).alloc (by simp) p
theorem bs_ret {w0 w : World} {B g : Nat} (h : Below B w0 w) (hg : B ≤ g) (a b : Value) : Below B w0 ((w.setCell ⟨g, 0, none⟩ a).setCell ⟨g, 1, none⟩ b) := (h.setCell (p := ⟨g, 0, none⟩) hg a).setCell (p := ⟨g, 1, none⟩) hg b
theorem bs_drewN {B : Nat} {a w : World} (h : Below B a w) (n : Nat) : Below B a (w.drewN n) := ⟨h.os, h.tape, h.output, h.size, h.block⟩
theorem rnext_walk (d : Nat) (w : World) (hd : d < 18446744073709551616) :
    Calls Try.prog 13 #[.int .u64 (d : Int)] w fun e w' => e = .returned (.tuple #[.int .u64 (nx d : Int), .int .i64 (num d : Int)]) ∧ w = w' := by
  go_enter Try.func13, Try.ntmps13
  go_wp2
  go_ret2
  refine ⟨?_, rfl⟩
  simp only [nx_wrap, num_wrap _ (nx_lt d)]
  rfl
theorem limited_walk (n : Int) (m : Nat) (w : World) :
    Calls Try.prog 28 #[.int .i64 n, .int .i64 (m : Int)] w fun e w' => e = .returned (.int .i64 (lim n m : Int)) ∧ w = w' := by
  go_enter Try.func28, Try.ntmps28
  go_wp2
  all_goals go_ret
  all_goals refine ⟨congrArg (fun z => Ending.returned (Value.int .i64 z)) ?_, rfl⟩
  all_goals unfold lim
  all_goals omega
theorem clamp_walk (n : Int) (m : Nat) (w : World) :
    Calls Try.prog 27 #[.int .i64 n, .int .i64 (m : Int)] w fun e w' => e = .returned (.int .i64 (lim n m : Int)) ∧ w = w' := by
  go_enter Try.func27, Try.ntmps27
  go_wp2
  all_goals go_ret
  all_goals refine ⟨congrArg (fun z => Ending.returned (Value.int .i64 z)) ?_, rfl⟩
  all_goals unfold lim
  all_goals omega
theorem single_walk (w : World) :
    Calls Try.prog 24 #[] w fun e w' => e = .returned (.agg #[.int .u64 6364136223846793005, .int .u64 1442695040888963407]) ∧ Below w.heap.size w w' := by
  go_enter Try.func24, Try.ntmps24
  go_wp2
  have k0 := cell_new w #[Value.int .u64 6364136223846793005, Value.int .u64 1442695040888963407] 40 0
  have k1 := cell_new w #[Value.int .u64 6364136223846793005, Value.int .u64 1442695040888963407] 40 1
  refine bodyPost_ret (v := .agg #[.int .u64 6364136223846793005, .int .u64 1442695040888963407]) (by simp [results, Try.results24, go_sem, k0, k1]) rfl ⟨rfl, (Below.refl _ _).alloc (Nat.le_refl _) _⟩
theorem apply_walk (zm za zd : Int) (m a d : Nat) (w : World) (hm : zm = m) (ha : za = a) (hd : zd = d) :
    Calls Try.prog 25 #[.agg #[.int .u64 zm, .int .u64 za], .int .u64 zd] w fun e w' => e = .returned (.int .u64 (af 18446744073709551616 m a d : Int)) ∧ Below w.heap.size w w' := by
  subst hm ha hd
  go_enter Try.func25, Try.ntmps25
  go_wp2
  go_ret
  exact ⟨congrArg (fun z => Ending.returned (Value.int .u64 z)) (af_wrap m a d), (Below.refl _ _).alloc (Nat.le_refl _) _⟩
theorem next_walk (d : Nat) (w : World) (hd : d < 18446744073709551616) :
    Calls Try.prog 12 #[.int .u64 (d : Int)] w fun e w' => e = .returned (.tuple #[.int .u64 (nx d : Int), .int .i64 (num d : Int)]) ∧ Below w.heap.size w w' := by
  have hx := nx_lt d
  have hn : nx d = af 18446744073709551616 6364136223846793005 1442695040888963407 d := by unfold nx; rfl
  have Hn := Lib.hid hn
  clear hn
  go_enter Try.func12, Try.ntmps12
  go_wp2_with (first
    | (go_at_call 24; refine (single_walk _).mono ?_; rintro e w1 ⟨rfl, b1⟩)
    | (go_at_call 25; refine (apply_walk _ _ _ 6364136223846793005 1442695040888963407 d _ rfl rfl rfl).mono ?_; rintro e w2 ⟨rfl, b2⟩; rw [← Hn.out]))
  go_ret2
  exact ⟨rfl, b1.trans (b2.mono b1.size)⟩
theorem mul_wrap (m k : Nat) : IntKind.u64.wrap ((m : Int) * (k : Int)) = ((m * k % 18446744073709551616 : Nat) : Int) := by
  rw [w64]
  omega
set_option maxRecDepth 20000 in
theorem twice_walk (zm za : Int) (m a : Nat) (w : World) (hm : zm = m) (ha : za = a) :
    Calls Try.prog 31 #[.agg #[.int .u64 zm, .int .u64 za]] w fun e w' => e = .returned (.agg #[.int .u64 ((m * m % 18446744073709551616 : Nat) : Int), .int .u64 ((af 18446744073709551616 m a a : Nat) : Int)]) ∧ Below w.heap.size w w' := by
  subst hm ha
  have B0 := bs_a2 w (.cells #[.int .u64 (m : Int), .int .u64 (a : Int)] 40) (.cells #[.int .u64 0, .int .u64 0] 40)
  have ka := (Bs.new w (.int .u64 (m : Int)) (.int .u64 (a : Int)) 40).below ((Below.refl _ _).alloc (Nat.le_refl _) (.cells #[.int .u64 0, .int .u64 0] 40))
  have kr := Bs.new (w.alloc (.cells #[.int .u64 (m : Int), .int .u64 (a : Int)] 40)) (.int .u64 0) (.int .u64 0) 40
  rw [show (w.alloc (.cells #[.int .u64 (m : Int), .int .u64 (a : Int)] 40)).heap.size = w.heap.size + 1 by simp] at kr
  go_enter Try.func31, Try.ntmps31
  go_wp2_with fail
  have ka := ka.drew
  have kr := kr.drew
  have B0 := B0.drew
  go_region_held3 (fun w' => w'.cell? ⟨w.heap.size, 0, none⟩ = some (.int .u64 (m : Int)) ∧ w'.cell? ⟨w.heap.size, 1, none⟩ = some (.int .u64 (a : Int))) (first | exact ⟨ka.1, ka.2.1⟩ | exact ⟨(ka.ret (r := w.heap.size + 1) (by omega) _ _).1, (ka.ret (r := w.heap.size + 1) (by omega) _ _).2.1⟩)
    (first
      | (go_at_call 25; (with_reducible refine (apply_walk _ _ _ m a a _ rfl rfl rfl).mono ?_); rintro e w2 ⟨rfl, bb⟩; have ka := ka.below bb; have kr := kr.below bb; have B0 := B0.trans (bb.mono B0.size); clear bb; have kr0 := kr.1; have kr1 := kr.2.1; have kr2 := kr.2.2.1; have kr3 := kr.2.2.2))
  go_wp2
  have Hz := Lib.hid (mul_wrap m m)
  generalize IntKind.u64.wrap ((m : Int) * (m : Int)) = z1 at Hz ⊢
  have kp := kr.put (.int .u64 z1) (.int .u64 ((af 18446744073709551616 m a a : Nat) : Int))
  have kp0 := kp.1
  have kp1 := kp.2.1
  refine bodyPost_ret (v := .agg #[.int .u64 z1, .int .u64 ((af 18446744073709551616 m a a : Nat) : Int)]) (by simp [results, Try.results31, go_sem, kp0, kp1]) rfl ⟨by rw [Hz.out], bs_ret B0 (by omega) _ _⟩
theorem bel_mod (d : Nat) (n : Int) (h : ¬ n < 1) : (bel d n.toNat : Int) = (num d : Int) % n := by
  rw [bel_pos d _ (by omega), Int.natCast_emod, show ((n.toNat : Nat) : Int) = n by omega]
theorem below_no (d : Nat) (n : Int) (w : World) (Hd : Hid (d < 18446744073709551616)) (hn1 : n < 1) :
    Calls Try.prog 14 #[.int .u64 (d : Int), .int .i64 n] w fun e w' => e = .returned (.tuple #[.int .u64 (nx d : Int), .int .i64 (bel d n.toNat : Int)]) ∧ Below w.heap.size w w' := by
  have E0 : Hid (bel d n.toNat = 0) := by rw [show n.toNat = 0 by omega]; exact if_pos rfl
  go_enter Try.func14, Try.ntmps14
  go_wp2_with (first
    | (go_at_call 12; with_reducible refine (next_walk d _ Hd.out).mono ?_; rintro e w1 ⟨rfl, b1⟩))
  go_ret2
  rw [E0.out]
  exact ⟨rfl, b1⟩
theorem below_yes (d : Nat) (n : Int) (w : World) (Hd : Hid (d < 18446744073709551616)) (hn1 : ¬ n < 1) (hnz : (n == 0) = false) :
    Calls Try.prog 14 #[.int .u64 (d : Int), .int .i64 n] w fun e w' => e = .returned (.tuple #[.int .u64 (nx d : Int), .int .i64 (bel d n.toNat : Int)]) ∧ Below w.heap.size w w' := by
  have E0 : Hid ((bel d n.toNat : Int) = (num d : Int) % n) := bel_mod d n hn1
  go_enter Try.func14, Try.ntmps14
  go_wp2_with (first
    | (go_at_call 12; with_reducible refine (next_walk d _ Hd.out).mono ?_; rintro e w1 ⟨rfl, b1⟩))
  go_quiet (fail)
  go_wp2
  go_ret2
  rw [E0.out]
  exact ⟨rfl, bs_drewN b1 _⟩
theorem below_walk (d : Nat) (n : Int) (w : World) (hd : d < 18446744073709551616) :
    Calls Try.prog 14 #[.int .u64 (d : Int), .int .i64 n] w fun e w' => e = .returned (.tuple #[.int .u64 (nx d : Int), .int .i64 (bel d n.toNat : Int)]) ∧ Below w.heap.size w w' := by
  by_cases h : n < 1
  · exact below_no d n w hd h
  · exact below_yes d n w hd h (by simp; omega)
theorem rbelow_no (d : Nat) (n : Int) (w : World) (Hd : Hid (d < 18446744073709551616)) (hn1 : n < 1) :
    Calls Try.prog 15 #[.int .u64 (d : Int), .int .i64 n] w fun e w' => e = .returned (.tuple #[.int .u64 (nx d : Int), .int .i64 (bel d n.toNat : Int)]) ∧ Below w.heap.size w w' := by
  have E0 : Hid (bel d n.toNat = 0) := by rw [show n.toNat = 0 by omega]; exact if_pos rfl
  go_enter Try.func15, Try.ntmps15
  go_wp2_with (first
    | (go_at_call 13; with_reducible refine (rnext_walk d _ Hd.out).mono ?_; rintro e w1 ⟨rfl, rfl⟩))
  go_ret2
  rw [E0.out]
  exact ⟨rfl, Below.refl _ _⟩
theorem rbelow_yes (d : Nat) (n : Int) (w : World) (Hd : Hid (d < 18446744073709551616)) (hn1 : ¬ n < 1) (hnz : (n == 0) = false) :
    Calls Try.prog 15 #[.int .u64 (d : Int), .int .i64 n] w fun e w' => e = .returned (.tuple #[.int .u64 (nx d : Int), .int .i64 (bel d n.toNat : Int)]) ∧ Below w.heap.size w w' := by
  have E0 : Hid ((bel d n.toNat : Int) = (num d : Int) % n) := bel_mod d n hn1
  go_enter Try.func15, Try.ntmps15
  go_wp2_with (first
    | (go_at_call 13; with_reducible refine (rnext_walk d _ Hd.out).mono ?_; rintro e w1 ⟨rfl, rfl⟩))
  go_quiet (fail)
  go_wp2
  go_ret2
  rw [E0.out]
  exact ⟨rfl, bs_drewN (Below.refl _ _) _⟩
theorem rbelow_walk (d : Nat) (n : Int) (w : World) (hd : d < 18446744073709551616) :
    Calls Try.prog 15 #[.int .u64 (d : Int), .int .i64 n] w fun e w' => e = .returned (.tuple #[.int .u64 (nx d : Int), .int .i64 (bel d n.toNat : Int)]) ∧ Below w.heap.size w w' := by
  by_cases h : n < 1
  · exact rbelow_no d n w hd h
  · exact rbelow_yes d n w hd h (by simp; omega)

/-- The state that is asked for is x after z more steps of the map of m and a. -/
def SkA (t : Nat) (x : Value) (z : Int) (m a : Value) : Prop := ∃ X M A : Nat, x = .int .u64 (X : Int) ∧ m = .int .u64 (M : Int) ∧ a = .int .u64 (A : Int) ∧ t = it 18446744073709551616 M A z.toNat X
theorem SkA.done {t : Nat} {x : Value} {z : Int} {m a : Value} (h : SkA t x z m a) (hz : z ≤ 0) : x = .int .u64 (t : Int) := by
  obtain ⟨X, M, A, rfl, rfl, rfl, h⟩ := h
  rw [h, show z.toNat = 0 by omega, it_zero]
theorem SkA.step (t : Nat) (z : Int) (X M A X' : Nat) (h : t = it 18446744073709551616 M A z.toNat X) (hz : 0 < z) (hX : X' = if z % 2 = 1 then af 18446744073709551616 M A X else X) : SkA t (.int .u64 (X' : Int)) (z / 2) (.int .u64 (IntKind.u64.wrap ((M : Int) * (M : Int)))) (.int .u64 (IntKind.u64.wrap (IntKind.u64.wrap ((A : Int) * (M : Int)) + (A : Int)))) := by
  refine ⟨X', M * M % 18446744073709551616, af 18446744073709551616 M A A, rfl, by rw [mul_wrap], by rw [af_wrap], ?_⟩
  rw [h, show (z / 2).toNat = z.toNat / 2 by omega, hX]
  split
  · exact it_odd _ _ _ _ _ (by omega)
  · exact it_even _ _ _ _ _ (by omega)
set_option maxRecDepth 20000 in
theorem rskip_walk (d : Nat) (k : Int) (w : World) (hk : k ≤ 9223372036854775807) :
    Calls Try.prog 23 #[.int .u64 (d : Int), .int .i64 k] w fun e w' => e = .returned (.int .u64 (skp k.toNat d : Int)) ∧ w = w' := by
  have S0 : SkA (skp k.toNat d) (.int .u64 (d : Int)) k (.int .u64 6364136223846793005) (.int .u64 1442695040888963407) := ⟨d, 6364136223846793005, 1442695040888963407, rfl, rfl, rfl, by unfold skp; rfl⟩
  obtain ⟨t, ht⟩ : ∃ t, t = skp k.toNat d := ⟨_, rfl⟩
  rw [← ht] at S0 ⊢
  have Hk := Lib.hid hk
  clear ht hk
  go_enter Try.func23, Try.ntmps23
  go_wp2
  go_loop [0, 1, 5, 6] (fun x z m a => ∃ Z : Int, z = .int .i64 Z ∧ Z ≤ 9223372036854775807 ∧ SkA t x Z m a) (fun _ z _ _ => (intOf z).toNat)
  case atStart => exact ⟨k, rfl, Hk.out, S0⟩
  case round =>
    obtain ⟨Z, rfl, hZ, hS⟩ := hrel
    by_cases h0 : 0 < Z
    · obtain ⟨X, M, A, rfl, rfl, rfl, hX⟩ := hS
      have HX := Lib.hid hX
      clear hX S0
      by_cases h1 : Z % 2 = 1
      · go_wp2
        go_round
        case rel => exact ⟨Z / 2, by go_num, by omega, by rw [af_wrap]; exact SkA.step t Z X M A _ HX.out h0 (by rw [if_pos h1])⟩
        case measure => simp [intOf]; omega
      · go_wp2
        go_round
        case rel => exact ⟨Z / 2, by go_num, by omega, SkA.step t Z X M A _ HX.out h0 (by rw [if_neg h1])⟩
        case measure => simp [intOf]; omega
    · obtain rfl := hS.done (by omega)
      go_wp2
      go_ret
      exact ⟨rfl, rfl⟩
/-- Between the rounds of Skip: the step's box is g; nothing of what was there before has changed. -/
def SkB (t : Nat) (w : World) (x : Value) (z : Int) (p : Value) (wr : World) : Prop := ∃ (g : Nat) (m a : Value), p = .pointer (some ⟨g, 0, none⟩) ∧ w.heap.size ≤ g ∧ Bs wr g m a ∧ SkA t x z m a ∧ Below w.heap.size w wr
theorem SkB.step {t : Nat} {w w3 : World} {g : Nat} {X M A X' : Nat} {z : Int} (e : TypeId) (h : t = it 18446744073709551616 M A z.toNat X) (hz : 0 < z) (hX : X' = if z % 2 = 1 then af 18446744073709551616 M A X else X)
    (hb : Bs w3 g (.int .u64 (M : Int)) (.int .u64 (A : Int))) (hB : Below w.heap.size w w3) (hg : w.heap.size ≤ g) :
    SkB t w (.int .u64 (X' : Int)) (z / 2) (.pointer (some ⟨w3.heap.size, 0, none⟩)) (((w3.setCell ⟨g, 0, none⟩ (.int .u64 ((M : Int) * (M : Int) % 18446744073709551616))).setCell ⟨g, 1, none⟩ (.int .u64 ((af 18446744073709551616 M A A : Nat) : Int))).alloc (.cells #[.int .u64 ((M : Int) * (M : Int) % 18446744073709551616), .int .u64 ((af 18446744073709551616 M A A : Nat) : Int)] e)) := by
  have hs : ((w3.setCell ⟨g, 0, none⟩ (.int .u64 ((M : Int) * (M : Int) % 18446744073709551616))).setCell ⟨g, 1, none⟩ (.int .u64 ((af 18446744073709551616 M A A : Nat) : Int))).heap.size = w3.heap.size := by simp
  have hS := SkA.step t z X M A X' h hz hX
  rw [af_wrap, w64] at hS
  have hn := Bs.new ((w3.setCell ⟨g, 0, none⟩ (.int .u64 ((M : Int) * (M : Int) % 18446744073709551616))).setCell ⟨g, 1, none⟩ (.int .u64 ((af 18446744073709551616 M A A : Nat) : Int))) (.int .u64 ((M : Int) * (M : Int) % 18446744073709551616)) (.int .u64 ((af 18446744073709551616 M A A : Nat) : Int)) e
  rw [hs] at hn
  exact ⟨w3.heap.size, _, _, rfl, hB.size, hn, hS, (bs_ret hB hg _ _).alloc (by rw [hs]; exact hB.size) _⟩
set_option maxRecDepth 20000 in
set_option maxHeartbeats 1000000 in
theorem skip_walk (d : Nat) (k : Int) (w : World) (hk : k ≤ 9223372036854775807) :
    Calls Try.prog 22 #[.int .u64 (d : Int), .int .i64 k] w fun e w' => e = .returned (.int .u64 (skp k.toNat d : Int)) ∧ Below w.heap.size w w' := by
  have S0 : SkA (skp k.toNat d) (.int .u64 (d : Int)) k (.int .u64 6364136223846793005) (.int .u64 1442695040888963407) := ⟨d, 6364136223846793005, 1442695040888963407, rfl, rfl, rfl, by unfold skp; rfl⟩
  obtain ⟨t, ht⟩ : ∃ t, t = skp k.toNat d := ⟨_, rfl⟩
  rw [← ht] at S0 ⊢
  have Hk := Lib.hid hk
  clear ht hk
  go_enter Try.func22, Try.ntmps22
  go_wp2_with (first
    | (go_at_call 24; refine (single_walk _).mono ?_; rintro e w1 ⟨rfl, b1⟩))
  go_loopw [0, 1, 5] (fun x z p wr => ∃ Z : Int, z = .int .i64 Z ∧ Z ≤ 9223372036854775807 ∧ SkB t w x Z p wr) (fun _ z _ _ => (intOf z).toNat)
  case atStart => exact ⟨k, rfl, Hk.out, _, _, _, rfl, b1.size, Bs.new w1 _ _ _, S0, b1.alloc b1.size _⟩
  case round =>
    obtain ⟨Z, rfl, hZ, g, m, a, rfl, hg, hb, hS, hB⟩ := hrel
    by_cases h0 : 0 < Z
    · obtain ⟨X, M, A, rfl, rfl, rfl, hX⟩ := hS
      have HX := Lib.hid hX
      clear hX S0
      have hb0 := hb.1
      have hb1 := hb.2.1
      by_cases h1 : Z % 2 = 1
      · go_wp2_with (first
          | (go_at_call 25; (with_reducible refine (apply_walk _ _ _ M A X _ rfl rfl rfl).mono ?_); rintro e w2 ⟨rfl, bb⟩; have hb := hb.below bb; have hB := hB.trans (bb.mono hB.size); clear bb hb0 hb1; have hb0 := hb.1; have hb1 := hb.2.1; have hb2 := hb.2.2.1; have hb3 := hb.2.2.2)
          | (go_at_call 31; (with_reducible refine (twice_walk _ _ M A _ rfl rfl).mono ?_); rintro e w3 ⟨rfl, bb⟩; have hb := hb.below bb; have hB := hB.trans (bb.mono hB.size); clear bb hb0 hb1; have hb0 := hb.1; have hb1 := hb.2.1; have hb2 := hb.2.2.1; have hb3 := hb.2.2.2))
        go_roundw
        case rel => exact ⟨Z / 2, by go_num, by omega, SkB.step _ HX.out h0 (by rw [if_pos h1]) hb hB hg⟩
        case measure => simp [intOf]; omega
      · have hb2 := hb.2.2.1
        have hb3 := hb.2.2.2
        go_wp2_with (first
          | (go_at_call 25; (with_reducible refine (apply_walk _ _ _ M A X _ rfl rfl rfl).mono ?_); rintro e w2 ⟨rfl, bb⟩; have hb := hb.below bb; have hB := hB.trans (bb.mono hB.size); clear bb hb0 hb1; have hb0 := hb.1; have hb1 := hb.2.1; have hb2 := hb.2.2.1; have hb3 := hb.2.2.2)
          | (go_at_call 31; (with_reducible refine (twice_walk _ _ M A _ rfl rfl).mono ?_); rintro e w3 ⟨rfl, bb⟩; have hb := hb.below bb; have hB := hB.trans (bb.mono hB.size); clear bb hb0 hb1; have hb0 := hb.1; have hb1 := hb.2.1; have hb2 := hb.2.2.1; have hb3 := hb.2.2.2))
        go_roundw
        case rel => exact ⟨Z / 2, by go_num, by omega, SkB.step _ HX.out h0 (by rw [if_neg h1]) hb hB hg⟩
        case measure => simp [intOf]; omega
    · obtain rfl := hS.done (by omega)
      go_wp2
      go_ret
      exact ⟨rfl, hB⟩
end Go.Proofs.Ythkgmjbjiiddhaa
