/-
  The walks of measure's reading functions: digits, whole numbers, decimals, fractions, values, letters and units, and of strings.Cut at one byte.
-/
import Derived.Test.YtohlilgnognmgaaGreatDoorMeaM
import Derived.Test.YtohlilgnognmgaaGreatDoorJRInt
import Derived.Test.YtohlilgnognmgaaGreatDoorShelf
import Derived.Lib.Bytealg
import Derived.Lib.IndexLaws
import Derived.Lib.IndexBytes
import Derived.Laws.RangeAny
import Derived.LoopTactic
namespace Go.Proofs.YtohlilgnognmgaaGreatDoor
open Go.RowKit Mea
attribute [local go_sem ↓] Go.wp_at_zero Go.wp_at_succ
set_option linter.unusedVariables false

theorem iter_below (w : World) (s : ByteArray) (p : Nat) : Below w.heap.size w (w.iter s p) := below_alloc w _
theorem list_len (s : ByteArray) : s.data.toList.length = s.size := by simp
theorem take_all (s : ByteArray) (pos : Nat) (h : ¬ pos < s.size) : s.data.toList.take pos = s.data.toList := List.take_of_length_le (by rw [list_len]; omega)
theorem rune_high (s : ByteArray) (pos : Nat) (h : pos < s.size) (ha : ¬ (s[pos]'h).toNat < 128) : (57 : Int) < ((Utf8.decode s pos).1 : Int) ∧ (122 : Int) < ((Utf8.decode s pos).1 : Int) := by
  have := (decode_high s pos h (by omega)).1
  omega
theorem pDig_bad (l : List UInt8) (h : ∃ c ∈ l, dgt c = false) : pDig l = (0, false) := by
  obtain ⟨c, hc, h1⟩ := h
  have : l.all dgt = false := by
    rw [List.all_eq_false]
    exact ⟨c, hc, by simp [h1]⟩
  simp [pDig, this]
theorem pDig_good (l : List UInt8) (h : ∀ c ∈ l, dgt c = true) : pDig l = (decVal l, !l.isEmpty) := by simp [pDig, List.all_eq_true.2 h]
theorem high_dgt (c : UInt8) (h : ¬ c.toNat < 128) : dgt c = false := dgt_hi c (by omega)
theorem isEmpty_size (s : ByteArray) : s.data.toList.isEmpty = decide (s.size = 0) := by
  rw [← list_len s]
  cases s.data.toList <;> simp
theorem next_high {P : Program} (w : World) (s : ByteArray) (pos : Nat) (h : pos < s.size) (ha : ¬ (s[pos]'h).toNat < 128) : ∃ r k : Nat, (57 : Int) < (r : Int) ∧ (122 : Int) < (r : Int) ∧ ∀ ty, (Instr.next (.pointer (some ⟨w.heap.size, 0, none⟩)) true ty).run P (w.iter s pos) = .ok (.tuple #[.bool true, .int .i64 pos, .int .i32 r]) (w.iter s (pos + k)) :=
  ⟨_, _, (rune_high s pos h ha).1, (rune_high s pos h ha).2, fun ty => run_next_any w s pos ty h⟩
set_option maxRecDepth 20000 in
set_option maxHeartbeats 2000000 in
theorem pdig_walk (s : ByteArray) (w : World) (hs : s.size ≤ 7) : Calls Tryz.prog 100 #[.string s] w (SmallEnd ((pDig s.data.toList).1 : Nat) (pDig s.data.toList).2 w) := by
  go_enter Tryz.func100, Tryz.ntmps100
  go_wp2
  go_loopw [4] (fun n w' => ∃ (pos v : Nat), w' = w.iter s pos ∧ n = .int .i64 v ∧ pos ≤ s.size ∧ Hid (decVal (s.data.toList.take pos) = v ∧ ∀ c ∈ s.data.toList.take pos, dgt c = true)) (fun _ w' => s.size - w'.iterPos w.heap.size)
  case atStart => exact ⟨0, 0, rfl, rfl, by omega, ⟨rfl, by simp⟩⟩
  case round =>
    obtain ⟨pos, v, rfl, rfl, hpos, H⟩ := hrel
    have hB := iter_below w s pos
    have HBB := Lib.hid hB
    clear hB
    by_cases hp : pos < s.size
    · have hv : (v : Int) < 1000000 := by
        have h1 := decVal_lt (s.data.toList.take pos) (fun c hc => (dgt_toNat (H.out.2 c hc)).2)
        rw [H.out.1, List.length_take] at h1
        have h2 : v < 10 ^ 6 := Nat.lt_of_lt_of_le h1 (Nat.pow_le_pow_right (by omega) (by omega))
        omega
      have HP := Lib.hid (byte_at s pos hp)
      by_cases ha : (s[pos]'hp).toNat < 128
      · have hnx : ∀ ty, (Instr.next (.pointer (some ⟨w.heap.size, 0, none⟩)) true ty).run Tryz.prog (w.iter s pos) = _ := fun ty => run_next_ascii w s pos ty hp ha
        by_cases hd1 : ((s[pos]'hp).toNat : Int) < 48
        · have e := pDig_bad s.data.toList ⟨_, List.mem_of_getElem? HP.out, dgt_lo _ hd1⟩
          have HE := Lib.hid e
          clear e
          go_wp2
          go_ret2
          unfold SmallEnd
          rw [HE.out]
          exact ⟨rfl, iter_below _ _ _⟩
        · by_cases hd2 : (57 : Int) < ((s[pos]'hp).toNat : Int)
          · have e := pDig_bad s.data.toList ⟨_, List.mem_of_getElem? HP.out, dgt_hi _ hd2⟩
            have HE := Lib.hid e
            clear e
            go_wp2
            go_ret2
            unfold SmallEnd
            rw [HE.out]
            exact ⟨rfl, iter_below _ _ _⟩
          · have Hd : Hid (dgt (s[pos]'hp) = true) := dgt_of _ (by omega) (by omega)
            go_wp2
            go_roundw
            case rel =>
              refine ⟨pos + 1, 10 * v + ((s[pos]'hp).toNat - 48), rfl, by go_num, by omega, ?_, ?_⟩
              · rw [decVal_take _ _ _ HP.out, H.out.1]
              · rw [List.take_add_one, HP.out]
                intro c hc
                rcases List.mem_append.1 hc with h | h
                · exact H.out.2 c h
                · simp only [Option.toList_some, List.mem_singleton] at h
                  rw [h]; exact Hd.out
            case measure =>
              simp
              omega
      · have e := pDig_bad s.data.toList ⟨_, List.mem_of_getElem? HP.out, high_dgt _ ha⟩
        have HE := Lib.hid e
        clear e
        obtain ⟨r, k, hr, hr', hnx⟩ := next_high (P := Tryz.prog) w s pos hp ha
        clear ha HP H hpos hp hr'
        have hr0 : ¬ (r : Int) < 48 := by omega
        go_wp2
        go_ret2
        unfold SmallEnd
        rw [HE.out]
        exact ⟨rfl, iter_below _ _ _⟩
    · have hnx : ∀ ty, (Instr.next (.pointer (some ⟨w.heap.size, 0, none⟩)) true ty).run Tryz.prog (w.iter s pos) = _ := fun ty => run_next_end w s pos ty hp
      have hH := H.out
      rw [take_all s pos hp] at hH
      have e := pDig_good s.data.toList hH.2
      rw [hH.1, isEmpty_size] at e
      clear hH
      have HE := Lib.hid e
      clear e
      by_cases h0 : s.size = 0
      · have hd : s.data.toList = [] := List.eq_nil_of_length_eq_zero (by simpa using h0)
        have hl : s.toList = [] := by rw [ByteArray.toList_eq]; exact hd
        clear hd
        go_wp2
        go_ret2
        unfold SmallEnd
        rw [HE.out]
        exact ⟨by simp [h0], iter_below _ _ _⟩
      · have hl : ¬ s.toList = [] := not_nil s (by omega)
        have hle : s.toList.isEmpty = false := by simpa using hl
        go_wp2
        go_ret2
        unfold SmallEnd
        rw [HE.out]
        exact ⟨by simp [h0], iter_below _ _ _⟩
theorem pWh_bad (l : List UInt8) (h : 7 < l.length ∨ (1 < l.length ∧ l[0]? = some 48)) : pWh l = (0, false) := by simp only [pWh, h, if_true]
theorem pWh_good (l : List UInt8) (h : ¬ (7 < l.length ∨ (1 < l.length ∧ l[0]? = some 48))) : pWh l = pDig l := by simp only [pWh, h, if_false]
set_option maxRecDepth 20000 in
set_option maxHeartbeats 2000000 in
theorem pwh_walk (s : ByteArray) (w : World) (hs : s.size ≤ 1000) : Calls Tryz.prog 71 #[.string s] w (SmallEnd ((pWh s.data.toList).1 : Nat) (pWh s.data.toList).2 w) := by
  by_cases h7 : 7 < s.size
  · rw [pWh_bad _ (.inl (by rw [list_len]; exact h7))]
    have h7' : (7 : Int) < (s.size : Int) := by omega
    go_enter Tryz.func71, Tryz.ntmps71
    go_wp2
    go_ret2
    exact ⟨rfl, Below.refl _ _⟩
  · have h7' : ¬ (7 : Int) < (s.size : Int) := by omega
    by_cases h1 : 1 < s.size
    · have h1' : (1 : Int) < (s.size : Int) := by omega
      have HB := Lib.hid (byte_at s 0 (by omega))
      by_cases h48 : (s[0].toNat : Int) = 48
      · have hb : ((s[0].toNat : Int) == 48) = true := by simpa using h48
        have h0 : s.data.toList[0]? = some 48 := by
          rw [HB.out]
          congr 1
          exact UInt8.toNat_inj.1 (by show s[0].toNat = 48; omega)
        rw [pWh_bad _ (.inr ⟨by rw [list_len]; exact h1, h0⟩)]
        clear h0 h48
        go_enter Tryz.func71, Tryz.ntmps71
        go_wp2
        go_ret2
        exact ⟨rfl, Below.refl _ _⟩
      · have hb : ((s[0].toNat : Int) == 48) = false := by simpa using h48
        rw [pWh_good _ (by
          rintro (h | ⟨_, h⟩)
          · rw [list_len] at h; omega
          · rw [HB.out] at h
            injection h with h
            apply h48
            rw [h]; rfl)]
        clear h48
        go_enter Tryz.func71, Tryz.ntmps71
        go_wp2_with fail
        refine (pdig_walk s _ (by omega)).mono ?_
        rintro e w1 ⟨rfl, bb⟩
        go_wp2
        go_ret2
        exact ⟨rfl, bb⟩
    · have h1' : ¬ (1 : Int) < (s.size : Int) := by omega
      rw [pWh_good _ (by
        rintro (h | ⟨h, _⟩)
        · rw [list_len] at h; omega
        · rw [list_len] at h; omega)]
      go_enter Tryz.func71, Tryz.ntmps71
      go_wp2_with fail
      refine (pdig_walk s _ (by omega)).mono ?_
      rintro e w1 ⟨rfl, bb⟩
      go_wp2
      go_ret2
      exact ⟨rfl, bb⟩

theorem indexb_no (c : UInt8) (l : List UInt8) (h : c ∉ l) : Lib.indexByte l c = -1 := by
  have h1 := Lib.indexByte_ge l c
  by_cases h2 : Lib.indexByte l c = -1
  · exact h2
  · obtain ⟨o, ho⟩ : ∃ o : Nat, Lib.indexByte l c = (o : Int) := ⟨(Lib.indexByte l c).toNat, by omega⟩
    exact absurd (List.mem_of_getElem? (Lib.indexByte_some ho).1) h
theorem indexb_at (c : UInt8) : ∀ (a b : List UInt8), c ∉ a → Lib.indexByte (a ++ c :: b) c = (a.length : Int) := by
  intro a
  induction a with
  | nil => intro b _; simp [Lib.indexByte]
  | cons x a ih =>
    intro b h
    simp only [List.mem_cons, not_or] at h
    have hi := ih b h.2
    have hx : (x == c) = false := by rw [beq_eq_false_iff_ne]; exact fun e => h.1 e.symm
    have hn : (((a.length : Nat) : Int) == -1) = false := by rw [beq_eq_false_iff_ne]; omega
    simp only [List.cons_append, Lib.indexByte, hx, hi, hn, if_false, Bool.false_eq_true, List.length_cons]
    omega
/-- What strings.Cut at a byte answers. -/
def CutB (l : List UInt8) (c : UInt8) (f : Bool) (w : World) (e : Ending) (w' : World) : Prop := ∃ p r : ByteArray, e = .returned (.tuple #[.string p, .string r, .bool f]) ∧ (p.data.toList = (cutAt c l).1 ∧ r.data.toList = (cutAt c l).2.1 ∧ p.size ≤ l.length ∧ r.size ≤ l.length) ∧ Below w.heap.size w w'
theorem slcutb_hit (c : UInt8) (s : ByteArray) (i : Nat) (w : World) (h : Lib.indexByte s.data.toList c = (i : Int)) (hi : i < s.size) (hs : s.size ≤ 100000) : Calls Tryz.prog 99 #[.string s, .string ⟨#[c]⟩] w (fun e w' => e = .returned (.tuple #[.string (s.extract 0 i), .string (s.extract (i + 1) s.size), .bool true]) ∧ Below w.heap.size w w') := by
  have B0 := Below.refl w.heap.size w
  have c1 : (0 : Int) ≤ (i : Int) := by omega
  have c2 : (i : Int) ≤ (s.size : Int) := by omega
  have c3 : (0 : Int) ≤ (i : Int) + 1 := by omega
  have c4 : (i : Int) + 1 ≤ (s.size : Int) := by omega
  have c5 : IntKind.i64.wrap ((i : Int) + 1) = (i : Int) + 1 := by rw [IntKind.wrap_i64]; omega
  have H := Lib.hid h
  clear h
  go_enter Tryz.func99, Tryz.ntmps99
  go_wp2_with fail
  refine (Tryz.stringslite_Index_one s c _).mono ?_
  rintro e w' ⟨rfl, rfl⟩
  rw [H.out]
  go_wp2_with fail
  go_quiet (fail)
  go_wp2
  go_ret3
  exact ⟨rfl, below_drewN B0 _⟩
theorem slcutb_miss (c : UInt8) (s : ByteArray) (w : World) (h : Lib.indexByte s.data.toList c = -1) : Calls Tryz.prog 99 #[.string s, .string ⟨#[c]⟩] w (fun e w' => e = .returned (.tuple #[.string s, .string ⟨#[]⟩, .bool false]) ∧ Below w.heap.size w w') := by
  have B0 := Below.refl w.heap.size w
  have H := Lib.hid h
  clear h
  go_enter Tryz.func99, Tryz.ntmps99
  go_wp2_with fail
  refine (Tryz.stringslite_Index_one s c _).mono ?_
  rintro e w' ⟨rfl, rfl⟩
  rw [H.out]
  go_wp2
  go_ret3
  exact ⟨rfl, B0⟩
theorem cutb_of (c : UInt8) (s p r : ByteArray) (f : Bool) (w : World) (h : Calls Tryz.prog 99 #[.string s, .string ⟨#[c]⟩] w (fun e w' => e = .returned (.tuple #[.string p, .string r, .bool f]) ∧ Below w.heap.size w w')) : Calls Tryz.prog 68 #[.string s, .string ⟨#[c]⟩] w (fun e w' => e = .returned (.tuple #[.string p, .string r, .bool f]) ∧ Below w.heap.size w w') := by
  go_enter Tryz.func68, Tryz.ntmps68
  go_wp2_with fail
  refine h.mono ?_
  rintro e w1 ⟨rfl, bb⟩
  go_wp2
  go_ret3
  exact ⟨rfl, bb⟩
theorem cutb (c : UInt8) (s : ByteArray) (f : Bool) (w : World) (hs : s.size ≤ 100000) (hf : (cutAt c s.data.toList).2.2 = f) : Calls Tryz.prog 68 #[.string s, .string ⟨#[c]⟩] w (CutB s.data.toList c f w) := by
  rcases cutAt_split c s.data.toList with ⟨h1, h2⟩ | ⟨a, b, h1, h2, h3⟩
  · rw [h2] at hf
    subst hf
    refine (cutb_of c s s ⟨#[]⟩ false w (slcutb_miss c s w (indexb_no c _ h1))).mono ?_
    rintro e w1 ⟨rfl, bb⟩
    exact ⟨s, ⟨#[]⟩, rfl, ⟨by rw [h2], by rw [h2], by simp, Nat.zero_le _⟩, bb⟩
  · rw [h3] at hf
    subst hf
    have hl : s.size = a.length + (b.length + 1) := by rw [← list_len s, h1, List.length_append, List.length_cons]
    refine (cutb_of c s _ _ true w (slcutb_hit c s a.length w (by rw [h1]; exact indexb_at c a b h2) (by omega) hs)).mono ?_
    rintro e w1 ⟨rfl, bb⟩
    have e1 : (s.extract 0 a.length).data.toList = a := by
      have : (s.extract 0 a.length).data.toList = s.data.toList.take a.length := by simp [ByteArray.data_extract]
      rw [this, h1]; simp
    have e2 : (s.extract (a.length + 1) s.size).data.toList = b := by
      rw [Lib.extract_to_end, h1]; simp
    refine ⟨_, _, rfl, ⟨by rw [h3]; exact e1, by rw [h3]; exact e2, ?_, ?_⟩, bb⟩
    · rw [← list_len, e1, list_len]; omega
    · rw [← list_len, e2, list_len]; omega
/-- A numerator, a denominator, and whether they are a value. -/
def VEnd (v : Nat × Nat × Bool) (w : World) (e : Ending) (w' : World) : Prop := ∃ x y : Int, e = .returned (.tuple #[.int .i64 x, .int .i64 y, .bool v.2.2]) ∧ (v.2.2 = true → x = v.1 ∧ y = v.2.1) ∧ Below w.heap.size w w'
def Cut2 (p r : ByteArray) (f : Bool) (w : World) (e : Ending) (w' : World) : Prop := e = .returned (.tuple #[.string p, .string r, .bool f]) ∧ Below w.heap.size w w'
def V3 (x y : Int) (f : Bool) (w : World) (e : Ending) (w' : World) : Prop := e = .returned (.tuple #[.int .i64 x, .int .i64 y, .bool f]) ∧ Below w.heap.size w w'
theorem prod_wrap (x d y : Nat) (hx : x < 10000000) (hd : d < 10000000) (hy : y < 10000000) : IntKind.i64.wrap ((x : Int) * (d : Int)) = (x : Int) * (d : Int) ∧ IntKind.i64.wrap ((x : Int) * (d : Int) + (y : Int)) = (x : Int) * (d : Int) + (y : Int) := by
  have h : x * d ≤ 10000000 * 10000000 := Nat.mul_le_mul (by omega) (by omega)
  have e : (((x * d : Nat)) : Int) = (x : Int) * (d : Int) := by push_cast; rfl
  rw [IntKind.wrap_i64, IntKind.wrap_i64, ← e]
  omega
set_option maxRecDepth 20000 in
set_option maxHeartbeats 4000000 in
theorem pfrac_mixed (a b p r : ByteArray) (w : World) (x y d : Nat) (b1 b2 b3 : Bool) (hx : x < 10000000) (hy : y < 10000000) (hd : d < 10000000)
    (hc : ∀ w, Calls Tryz.prog 68 #[.string a, .string ⟨#[32]⟩] w (Cut2 p r true w))
    (h1 : ∀ w, Calls Tryz.prog 71 #[.string p] w (SmallEnd x b1 w))
    (h2 : ∀ w, Calls Tryz.prog 71 #[.string r] w (SmallEnd y b2 w))
    (h3 : ∀ w, Calls Tryz.prog 71 #[.string b] w (SmallEnd d b3 w)) :
    Calls Tryz.prog 69 #[.string a, .string b] w (V3 ((x : Int) * (d : Int) + (y : Int)) d (b1 && b2 && b3 && decide (0 < d) && decide (d ≤ 999)) w) := by
  obtain ⟨e1, e2⟩ := prod_wrap x d y hx hd hy
  have HC := Lib.hid hc
  have H1 := Lib.hid h1
  have H2 := Lib.hid h2
  have H3 := Lib.hid h3
  clear hc h1 h2 h3
  obtain ⟨f, hf⟩ : ∃ f, (b1 && b2 && b3 && decide (0 < d) && decide (d ≤ 999)) = f := ⟨_, rfl⟩
  rw [hf]
  have HF := Lib.hid hf
  clear hf
  go_enter Tryz.func69, Tryz.ntmps69
  go_wp2_with fail
  refine (HC.out _).mono ?_
  rintro e w1 ⟨rfl, bb⟩
  have B0 := bb
  clear bb
  go_wp2_with fail
  refine (H1.out _).mono ?_
  rintro e w2 ⟨rfl, bb⟩
  have B0 := B0.trans (bb.mono B0.size)
  clear bb
  go_wp2_with fail
  refine (H2.out _).mono ?_
  rintro e w3 ⟨rfl, bb⟩
  have B0 := B0.trans (bb.mono B0.size)
  clear bb
  go_wp2_with fail
  refine (H3.out _).mono ?_
  rintro e w4 ⟨rfl, bb⟩
  have B0 := B0.trans (bb.mono B0.size)
  clear bb
  by_cases hd0 : 0 < d
  · have hd0' : (0 : Int) < (d : Int) := by omega
    by_cases hd9 : d ≤ 999
    · have hd9' : decide ((d : Int) ≤ 999) = true := decide_eq_true (by omega)
      cases b1 <;> cases b2 <;> cases b3
      all_goals
        go_wp2
        go_ret3
        rw [← HF.out]
        simp only [hd0, hd9, decide_true, Bool.and_true, Bool.and_self, Bool.and_false]
        exact ⟨rfl, B0⟩
    · have hd9' : decide ((d : Int) ≤ 999) = false := decide_eq_false (by omega)
      cases b1 <;> cases b2 <;> cases b3
      all_goals
        go_wp2
        go_ret3
        rw [← HF.out]
        simp only [hd9, decide_false, Bool.and_false]
        exact ⟨rfl, B0⟩
  · have hd0' : ¬ (0 : Int) < (d : Int) := by omega
    cases b1 <;> cases b2 <;> cases b3
    all_goals
      go_wp2
      go_ret3
      rw [← HF.out]
      simp only [hd0, decide_false, Bool.and_false, Bool.false_and]
      exact ⟨rfl, B0⟩
set_option maxRecDepth 20000 in
set_option maxHeartbeats 4000000 in
theorem pfrac_plain (a b p r : ByteArray) (w : World) (y d : Nat) (b2 b3 : Bool) (hy : y < 10000000) (hd : d < 10000000)
    (hc : ∀ w, Calls Tryz.prog 68 #[.string a, .string ⟨#[32]⟩] w (Cut2 p r false w))
    (h2 : ∀ w, Calls Tryz.prog 71 #[.string a] w (SmallEnd y b2 w))
    (h3 : ∀ w, Calls Tryz.prog 71 #[.string b] w (SmallEnd d b3 w)) :
    Calls Tryz.prog 69 #[.string a, .string b] w (V3 (y : Int) d (b2 && b3 && decide (0 < d) && decide (d ≤ 999)) w) := by
  have e2 : IntKind.i64.wrap (y : Int) = (y : Int) := by rw [IntKind.wrap_i64]; omega
  have HC := Lib.hid hc
  have H2 := Lib.hid h2
  have H3 := Lib.hid h3
  clear hc h2 h3
  obtain ⟨f, hf⟩ : ∃ f, (b2 && b3 && decide (0 < d) && decide (d ≤ 999)) = f := ⟨_, rfl⟩
  rw [hf]
  have HF := Lib.hid hf
  clear hf
  go_enter Tryz.func69, Tryz.ntmps69
  go_wp2_with fail
  refine (HC.out _).mono ?_
  rintro e w1 ⟨rfl, bb⟩
  have B0 := bb
  clear bb
  go_wp2_with fail
  refine (H2.out _).mono ?_
  rintro e w3 ⟨rfl, bb⟩
  have B0 := B0.trans (bb.mono B0.size)
  clear bb
  go_wp2_with fail
  refine (H3.out _).mono ?_
  rintro e w4 ⟨rfl, bb⟩
  have B0 := B0.trans (bb.mono B0.size)
  clear bb
  by_cases hd0 : 0 < d
  · have hd0' : (0 : Int) < (d : Int) := by omega
    by_cases hd9 : d ≤ 999
    · have hd9' : decide ((d : Int) ≤ 999) = true := decide_eq_true (by omega)
      cases b2 <;> cases b3
      all_goals
        go_wp2
        go_ret3
        rw [← HF.out]
        simp only [hd0, hd9, decide_true, Bool.and_true, Bool.and_self, Bool.and_false]
        exact ⟨rfl, B0⟩
    · have hd9' : decide ((d : Int) ≤ 999) = false := decide_eq_false (by omega)
      cases b2 <;> cases b3
      all_goals
        go_wp2
        go_ret3
        rw [← HF.out]
        simp only [hd9, decide_false, Bool.and_false]
        exact ⟨rfl, B0⟩
  · have hd0' : ¬ (0 : Int) < (d : Int) := by omega
    cases b2 <;> cases b3
    all_goals
      go_wp2
      go_ret3
      rw [← HF.out]
      simp only [hd0, decide_false, Bool.and_false, Bool.false_and]
      exact ⟨rfl, B0⟩
end Go.Proofs.YtohlilgnognmgaaGreatDoor
