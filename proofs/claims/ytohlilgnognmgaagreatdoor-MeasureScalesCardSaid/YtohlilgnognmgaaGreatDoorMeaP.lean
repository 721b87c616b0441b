/-
  The walks of measure's unitSize, cutUnit and Parse.
-/
import Derived.Test.YtohlilgnognmgaaGreatDoorMeaV
import Derived.Test.YtohlilgnognmgaaGreatDoorRatQ
namespace Go.Proofs.YtohlilgnognmgaaGreatDoor
open Go.RowKit Mea
attribute [local go_sem ↓] Go.wp_at_zero Go.wp_at_succ
set_option linter.unusedVariables false

theorem ofL_ne {l m : List UInt8} (h : l ≠ m) : ((ofL l).toList == m) = false := by
  rw [beq_eq_false_iff_ne, ByteArray.toList_eq]
  exact h
theorem unit_no (s : ByteArray) (w : World) (h1 : (s.toList == [109, 109]) = false) (h2 : (s.toList == [99, 109]) = false) (h3 : (s.toList == [109]) = false) (h4 : (s.toList == [105, 110]) = false) : Calls Tryz.prog 35 #[.string s] w (SmallEnd 0 false w) := by
  go_enter Tryz.func35, Tryz.ntmps35
  go_wp2
  go_ret2
  exact ⟨rfl, Below.refl _ _⟩
theorem unit_mm_w (w : World) : Calls Tryz.prog 35 #[.string ⟨#[109, 109]⟩] w (SmallEnd 100 true w) := by
  go_enter Tryz.func35, Tryz.ntmps35
  go_wp2
  go_ret2
  exact ⟨rfl, Below.refl _ _⟩
theorem unit_cm_w (w : World) : Calls Tryz.prog 35 #[.string ⟨#[99, 109]⟩] w (SmallEnd 1000 true w) := by
  go_enter Tryz.func35, Tryz.ntmps35
  go_wp2
  go_ret2
  exact ⟨rfl, Below.refl _ _⟩
theorem unit_m_w (w : World) : Calls Tryz.prog 35 #[.string ⟨#[109]⟩] w (SmallEnd 100000 true w) := by
  go_enter Tryz.func35, Tryz.ntmps35
  go_wp2
  go_ret2
  exact ⟨rfl, Below.refl _ _⟩
theorem unit_in_w (w : World) : Calls Tryz.prog 35 #[.string ⟨#[105, 110]⟩] w (SmallEnd 2540 true w) := by
  go_enter Tryz.func35, Tryz.ntmps35
  go_wp2
  go_ret2
  exact ⟨rfl, Below.refl _ _⟩
theorem unit_walk (l : List UInt8) (w : World) : Calls Tryz.prog 35 #[.string (ofL l)] w (SmallEnd ((pUnit l).1 : Nat) (pUnit l).2 w) := by
  by_cases h1 : l = [109, 109]
  · subst h1; exact unit_mm_w w
  by_cases h2 : l = [99, 109]
  · subst h2; exact unit_cm_w w
  by_cases h3 : l = [109]
  · subst h3; exact unit_m_w w
  by_cases h4 : l = [105, 110]
  · subst h4; exact unit_in_w w
  have e : pUnit l = (0, false) := by simp only [pUnit, h1, h2, h3, h4, if_false]
  rw [e]
  exact unit_no (ofL l) w (ofL_ne h1) (ofL_ne h2) (ofL_ne h3) (ofL_ne h4)

/-- A character of several bytes spans bytes above 127. -/
theorem decode_span (s : ByteArray) (pos : Nat) (h : pos < s.size) (ha : ¬ (s[pos]'h).toNat < 128) : pos + (Utf8.decode s pos).2 ≤ s.size ∧ ∀ k, k < (Utf8.decode s pos).2 → 128 ≤ (s.get! (pos + k)).toNat := by
  have h0 : 128 ≤ (s.get! (pos + 0)).toNat := by rw [get_at s pos h]; omega
  have hn : ¬ (s.get! (pos + 0)).toNat < 128 := by omega
  simp only [Utf8.decode, hn, if_false]
  repeat' split
  all_goals (try simp only [Bool.and_eq_true, decide_eq_true_eq, beq_iff_eq] at *)
  all_goals
    refine ⟨by omega, fun k hk => ?_⟩
    have h4 : k = 0 ∨ k = 1 ∨ k = 2 ∨ k = 3 := by omega
    rcases h4 with rfl | rfl | rfl | rfl
    all_goals (first | exact h0 | omega)
theorem get_list (s : ByteArray) (j : Nat) (h : j < s.size) : s.data.toList[j]? = some (s.get! j) := by
  rw [byte_at s j h]
  congr 1
  have := get_at s j h
  rw [Nat.add_zero] at this
  exact this.symm
theorem let_high (c : UInt8) (h : 128 ≤ c.toNat) : isLet c = false := by
  simp only [isLet, Bool.and_eq_false_iff, decide_eq_false_iff_not]
  right; omega
theorem take_span (s : ByteArray) (pos k : Nat) (hk : pos + k ≤ s.size) (h1 : ∀ c ∈ s.data.toList.take pos, isLet c = false) (h2 : ∀ j, j < k → isLet (s.get! (pos + j)) = false) : ∀ c ∈ s.data.toList.take (pos + k), isLet c = false := by
  induction k with
  | zero => exact h1
  | succ k ih =>
    intro c hc
    rw [← Nat.add_assoc, List.take_add_one, get_list s (pos + k) (by omega)] at hc
    rcases List.mem_append.1 hc with h | h
    · exact ih (by omega) (fun j hj => h2 j (by omega)) c h
    · simp only [Option.toList_some, List.mem_singleton] at h
      rw [h]; exact h2 k (by omega)
theorem cutU_split (a b : List UInt8) (c : UInt8) (hc : isLet c = true) (h1 : ∀ x ∈ a, isLet x = false) : cutU (a ++ c :: b) = (a, c :: b) := by
  induction a with
  | nil => simp [cutU, hc]
  | cons x t ih =>
    have h2 := h1 x (by simp)
    have h3 := ih (fun y hy => h1 y (by simp [hy]))
    simp only [cutU, Prod.mk.injEq] at h3
    simp only [cutU, List.cons_append, List.takeWhile_cons, List.dropWhile_cons, h2, Bool.not_false, if_true, h3.1, h3.2]
theorem cutU_at (l : List UInt8) (pos : Nat) (c : UInt8) (h : l[pos]? = some c) (hc : isLet c = true) (h1 : ∀ x ∈ l.take pos, isLet x = false) : cutU l = (l.take pos, l.drop pos) := by
  have hp : pos < l.length := (List.getElem?_eq_some_iff.1 h).1
  have hd : l.drop pos = c :: l.drop (pos + 1) := by
    rw [List.drop_eq_getElem_cons hp]
    congr 1
    exact (List.getElem?_eq_some_iff.1 h).2
  have e := cutU_split (l.take pos) (l.drop (pos + 1)) c hc h1
  rw [← hd, List.take_append_drop] at e
  exact e
theorem isletter_yes (r : Int) (w : World) (h1 : 97 ≤ r) (h2 : r ≤ 122) : Calls Tryz.prog 67 #[.int .i32 r] w (fun e w' => e = .returned (.bool true) ∧ w = w') := by
  have h3 : decide (r ≤ 122) = true := decide_eq_true h2
  go_enter Tryz.func67, Tryz.ntmps67
  go_wp2
  go_ret
  exact ⟨rfl, rfl⟩
theorem cutU_none (l : List UInt8) (h1 : ∀ x ∈ l, isLet x = false) : cutU l = (l, []) := by
  induction l with
  | nil => rfl
  | cons x t ih =>
    have h2 := h1 x (by simp)
    have h3 := ih (fun y hy => h1 y (by simp [hy]))
    simp only [cutU, Prod.mk.injEq] at h3
    simp only [cutU, List.takeWhile_cons, List.dropWhile_cons, h2, Bool.not_false, if_true, h3.1, h3.2]
def CutU (l : List UInt8) (w : World) (e : Ending) (w' : World) : Prop := e = .returned (.tuple #[.string (ofL (cutU l).1), .string (ofL (cutU l).2)]) ∧ Below w.heap.size w w'
set_option maxRecDepth 20000 in
set_option maxHeartbeats 4000000 in
theorem cutu_walk (s : ByteArray) (w : World) (hs : s.size ≤ 1000) : Calls Tryz.prog 34 #[.string s] w (CutU s.data.toList w) := by
  go_enter Tryz.func34, Tryz.ntmps34
  go_wp2
  go_loopw [] (fun w' => ∃ (pos : Nat), w' = w.iter s pos ∧ pos ≤ s.size ∧ Hid (∀ c ∈ s.data.toList.take pos, isLet c = false)) (fun w' => s.size - w'.iterPos w.heap.size)
  case atStart => exact ⟨0, rfl, by omega, by intro c hc; simp at hc⟩
  case round =>
    obtain ⟨pos, rfl, hpos, H⟩ := hrel
    by_cases hp : pos < s.size
    · have HP := Lib.hid (byte_at s pos hp)
      by_cases ha : (s[pos]'hp).toNat < 128
      · have hnx : ∀ ty, (Instr.next (.pointer (some ⟨w.heap.size, 0, none⟩)) true ty).run Tryz.prog (w.iter s pos) = _ := fun ty => run_next_ascii w s pos ty hp ha
        by_cases hl : isLet (s[pos]'hp) = true
        · have hh := hl
          simp only [isLet, Bool.and_eq_true, decide_eq_true_eq] at hh
          have h97 : (97 : Int) ≤ ((s[pos]'hp).toNat : Int) := by omega
          have h122 : ((s[pos]'hp).toNat : Int) ≤ 122 := by omega
          have e := cutU_at s.data.toList pos _ HP.out hl H.out
          have HE := Lib.hid e
          have hi0 : (0 : Int) ≤ (pos : Int) := by omega
          have hi1 : (pos : Int) ≤ (s.size : Int) := by omega
          have e1 : s.extract 0 pos = ofL (s.data.toList.take pos) := ofL_eq (by simp [ByteArray.data_extract])
          have e2 : s.extract pos s.size = ofL (s.data.toList.drop pos) := ofL_eq (by rw [Lib.extract_to_end])
          have E1 := Lib.hid e1
          have E2 := Lib.hid e2
          clear hh hl e e1 e2 ha
          go_wp2_with fail
          refine (isletter_yes _ _ h97 h122).mono ?_
          rintro e w1 ⟨rfl, rfl⟩
          go_wp2_with fail
          go_quiet (fail)
          go_wp2
          go_ret2
          unfold CutU
          rw [HE.out, ← E1.out, ← E2.out]
          exact ⟨rfl, below_drewN (iter_below _ _ _) _⟩
        · have hl : isLet (s[pos]'hp) = false := by simpa using hl
          have H1 : Hid (∀ j, j < 1 → isLet (s.get! (pos + j)) = false) := by
            intro j hj
            obtain rfl : j = 0 := by omega
            rw [get_at s pos hp]
            exact hl
          by_cases h97 : (97 : Int) ≤ ((s[pos]'hp).toNat : Int)
          · have h122 : ¬ ((s[pos]'hp).toNat : Int) ≤ 122 := by
              intro h
              have : isLet (s[pos]'hp) = true := by
                simp only [isLet, Bool.and_eq_true, decide_eq_true_eq]; omega
              rw [hl] at this; cases this
            have d122 : decide (((s[pos]'hp).toNat : Int) ≤ 122) = false := decide_eq_false h122
            clear hl
            go_wp2
            go_roundw
            case rel => exact ⟨pos + 1, rfl, by omega, take_span s pos 1 (by omega) H.out H1.out⟩
            case measure =>
              simp
              omega
          · clear hl
            go_wp2
            go_roundw
            case rel => exact ⟨pos + 1, rfl, by omega, take_span s pos 1 (by omega) H.out H1.out⟩
            case measure =>
              simp
              omega
      · obtain ⟨hspan, hall⟩ := decode_span s pos hp ha
        obtain ⟨r, k, hr, hk1, hks, hnx⟩ : ∃ r k : Nat, (122 : Int) < (r : Int) ∧ 1 ≤ k ∧ (pos + k ≤ s.size ∧ ∀ j, j < k → isLet (s.get! (pos + j)) = false) ∧ ∀ ty, (Instr.next (.pointer (some ⟨w.heap.size, 0, none⟩)) true ty).run Tryz.prog (w.iter s pos) = .ok (.tuple #[.bool true, .int .i64 pos, .int .i32 r]) (w.iter s (pos + k)) :=
          ⟨_, _, (rune_high s pos hp ha).2, (decode_high s pos hp (by omega)).2, ⟨hspan, fun j hj => let_high _ (hall j hj)⟩, fun ty => run_next_any w s pos ty hp⟩
        have HS := Lib.hid hks
        have h97 : (97 : Int) ≤ (r : Int) := by omega
        have d122 : decide ((r : Int) ≤ 122) = false := decide_eq_false (by omega)
        clear hspan hall hks ha hr
        go_wp2
        go_roundw
        case rel => exact ⟨pos + k, rfl, HS.out.1, take_span s pos k HS.out.1 H.out HS.out.2⟩
        case measure =>
          have := HS.out.1
          simp
          omega
    · have hnx : ∀ ty, (Instr.next (.pointer (some ⟨w.heap.size, 0, none⟩)) true ty).run Tryz.prog (w.iter s pos) = _ := fun ty => run_next_end w s pos ty hp
      have hH := H.out
      rw [take_all s pos hp] at hH
      have e := cutU_none _ hH
      have HE := Lib.hid e
      clear e hH
      go_wp2
      go_ret2
      unfold CutU
      rw [HE.out]
      exact ⟨rfl, iter_below _ _ _⟩
end Go.Proofs.YtohlilgnognmgaaGreatDoor
