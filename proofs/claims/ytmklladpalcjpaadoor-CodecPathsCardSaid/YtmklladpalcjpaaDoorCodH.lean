/-
  The walk of garmentlaw06.exampleHolds.
-/
import Derived.Test.YtmklladpalcjpaaDoorCodK
import Derived.Deep.DeepCutAuto
namespace Go.Proofs.YtmklladpalcjpaaDoor
open Go.RowKit Cod
set_option linter.unusedVariables false

/-- The list of a text. -/
def exI : Nd := .mk true [] [.mk false [] []]
def exN : Nd := .mk true [] [.mk false [97] [], .mk false [40] [], exI]
theorem ex_dec : decd [40, 49, 58, 97, 49, 58, 40, 40, 48, 58, 41, 41] = .ok exN := by rfl
theorem ex_enc : encd exN = .ok [40, 49, 58, 97, 49, 58, 40, 40, 48, 58, 41, 41] := enc_dec ex_dec
theorem ex_at : at_ exN [2, 0] = some (.mk false [] []) := by rfl
theorem ex_no : at_ exN [0, 0] = none := by rfl
theorem ex_t1 : decd [40, 50, 58, 97] = .error 4 := by rfl
theorem ex_t2 : decd [48, 50, 58, 97, 98] = .error 2 := by rfl
def exK : List Nd := [.mk false [97] [], .mk false [40] [], exI]
/-- The tree of the chapter's example, in a box b behind W. -/
def ExM (W : World) (p : Value) (wx : World) : Prop := ∃ b g : Nat, p = .pointer (some ⟨b, 0, none⟩) ∧ Bn wx b (.bool true) (.string ⟨#[]⟩) (.slice (some ⟨g, 0, none⟩) 3 3) ∧ RdN wx exN (.agg #[.bool true, .string ⟨#[]⟩, .slice (some ⟨g, 0, none⟩) 3 3]) ∧ Below W.heap.size W wx
abbrev C9 (g1 : Nat) : Array Value := #[.bool false, .string ⟨#[97]⟩, .slice none 0 0, .bool false, .string ⟨#[40]⟩, .slice none 0 0, .bool true, .string ⟨#[]⟩, .slice (some ⟨g1, 0, none⟩) 1 1]
theorem ex_rdC {B g1 : Nat} {W W' : World} (hI : RdM (fun g => g < B) W exI (.agg #[.bool true, .string ⟨#[]⟩, .slice (some ⟨g1, 0, none⟩) 1 1])) (hs : Bw B W W') : RdC (fun g => g < B) W' exK (C9 g1).toList := by
  have hI := hI.bw hs
  simp only [exK, RdC]
  exact ⟨RdM.of_parts (t := [97]) (RdMS.nil _ _) (by simp), RdM.of_parts (t := [40]) (RdMS.nil _ _) (by simp), hI, trivial⟩
theorem ex_row {B g1 : Nat} {W W' : World} {e : TypeId} (hI : RdM (fun g => g < B) W exI (.agg #[.bool true, .string ⟨#[]⟩, .slice (some ⟨g1, 0, none⟩) 1 1])) (hs : Bw B W W') (S : Nat → Prop) (hS : ∀ g, g < B → S g) (hg : S W'.heap.size) : RdMS S (W'.alloc (.cells (C9 g1) e)) exK (.slice (some ⟨W'.heap.size, 0, none⟩) 3 3) := by
  have hh : (W'.alloc (.cells (C9 g1) e)).heap[W'.heap.size]? = some (.cells (C9 g1) e (0, 0)) := by simp only [World.alloc, Array.getElem?_push_size]
  refine ⟨_, 3, rfl, Nat.le_refl _, by omega, fun _ => ⟨_, 0, rfl, hg, rdK_of_cells exK (C9 g1).toList 0 (rdC_keep (fun n v h => h.mono hS) _ _ (ex_rdC hI (hs.alloc _))) fun j u hu => ?_⟩⟩
  rw [Nat.zero_add, cell_of_row _ _ _ _ e (0, 0) hh, ← Array.getElem?_toList]
  exact hu
/-- The box is made last. -/
theorem ex_last {g1 : Nat} {W W' : World} {e e' : TypeId} {b : Nat} (hI : RdM (fun g => g < W.heap.size) W exI (.agg #[.bool true, .string ⟨#[]⟩, .slice (some ⟨g1, 0, none⟩) 1 1])) (hs : Bw W.heap.size W W') (hb : b = W'.heap.size + 1) :
    ExM W (.pointer (some ⟨b, 0, none⟩)) ((W'.alloc (.cells (C9 g1) e)).alloc (.cells #[.bool true, .string ⟨#[]⟩, .slice (some ⟨W'.heap.size, 0, none⟩) 3 3] e')) := by
  subst hb
  have hn := Bn.new (W'.alloc (.cells (C9 g1) e)) (.bool true) (.string ⟨#[]⟩) (.slice (some ⟨W'.heap.size, 0, none⟩) 3 3) e'
  rw [show (W'.alloc (.cells (C9 g1) e)).heap.size = W'.heap.size + 1 by simp] at hn
  exact ⟨_, _, rfl, hn, (RdM.of_parts (t := []) (ex_row hI hs (fun _ => True) (fun _ _ => trivial) trivial) (by simp)).below (up_1 _ _), ((hs.alloc _).alloc _).1⟩
/-- The box was there before: its cells are written. -/
theorem ex_store {g1 b : Nat} {W W' : World} {e : TypeId} {v0 v1 v2 : Value} (hI : RdM (fun g => g < W.heap.size) W exI (.agg #[.bool true, .string ⟨#[]⟩, .slice (some ⟨g1, 0, none⟩) 1 1])) (hs : Bw W.heap.size W W') (hb : Bn W' b v0 v1 v2) (hB : W.heap.size ≤ b) :
    ExM W (.pointer (some ⟨b, 0, none⟩)) ((((W'.alloc (.cells (C9 g1) e)).setCell ⟨b, 0, none⟩ (.bool true)).setCell ⟨b, 1, none⟩ (.string ⟨#[]⟩)).setCell ⟨b, 2, none⟩ (.slice (some ⟨W'.heap.size, 0, none⟩) 3 3)) := by
  have hlt := hb.lt
  have hr := RdM.of_parts (l := true) (t := []) (ex_row (e := e) hI hs (fun g => g ≠ b) (fun g hg => by omega) (by omega)) (by simp)
  exact ⟨_, _, rfl, (hb.up _).put _ _ _, (((hr.put _ _ (by simp) _).put _ _ (by simp) _).put _ _ (by simp) _).any, up_put (hs.alloc _).1 hB _ _ _⟩
/-- .. ahead of the list's block. -/
theorem ex_store2 {g1 b g : Nat} {W W' : World} {e : TypeId} {v0 v1 v2 : Value} (hI : RdM (fun g => g < W.heap.size) W exI (.agg #[.bool true, .string ⟨#[]⟩, .slice (some ⟨g1, 0, none⟩) 1 1])) (hs : Bw W.heap.size W W') (hb : Bn W' b v0 v1 v2) (hB : W.heap.size ≤ b) (hg : g = W'.heap.size) :
    ExM W (.pointer (some ⟨b, 0, none⟩)) ((((W'.setCell ⟨b, 0, none⟩ (.bool true)).setCell ⟨b, 1, none⟩ (.string ⟨#[]⟩)).setCell ⟨b, 2, none⟩ (.slice (some ⟨g, 0, none⟩) 3 3)).alloc (.cells (C9 g1) e)) := by
  subst hg
  have hs' := ((hs.set ⟨b, 0, none⟩ hB (.bool true)).set ⟨b, 1, none⟩ hB (.string ⟨#[]⟩)).set ⟨b, 2, none⟩ hB (.slice (some ⟨W'.heap.size, 0, none⟩) 3 3)
  have hp := hb.put (.bool true) (.string ⟨#[]⟩) (.slice (some ⟨W'.heap.size, 0, none⟩) 3 3)
  have hsz : (((W'.setCell ⟨b, 0, none⟩ (.bool true)).setCell ⟨b, 1, none⟩ (.string ⟨#[]⟩)).setCell ⟨b, 2, none⟩ (.slice (some ⟨W'.heap.size, 0, none⟩) 3 3)).heap.size = W'.heap.size := by simp
  have hr := RdM.of_parts (l := true) (t := []) (ex_row (e := e) hI hs' (fun _ => True) (fun _ _ => trivial) trivial) (by simp)
  rw [hsz] at hr
  exact ⟨_, _, rfl, hp.up _, hr, (hs'.alloc _).1⟩
/-- The box is made ahead of the list's block. -/
theorem ex_first {g1 g : Nat} {W W' : World} {e e' : TypeId} (hI : RdM (fun g => g < W.heap.size) W exI (.agg #[.bool true, .string ⟨#[]⟩, .slice (some ⟨g1, 0, none⟩) 1 1])) (hs : Bw W.heap.size W W') (hg : g = W'.heap.size + 1) :
    ExM W (.pointer (some ⟨W'.heap.size, 0, none⟩)) ((W'.alloc (.cells #[.bool true, .string ⟨#[]⟩, .slice (some ⟨g, 0, none⟩) 3 3] e')).alloc (.cells (C9 g1) e)) := by
  subst hg
  have hn := (Bn.new W' (.bool true) (.string ⟨#[]⟩) (.slice (some ⟨W'.heap.size + 1, 0, none⟩) 3 3) e').up (.cells (C9 g1) e)
  have hr := RdM.of_parts (l := true) (t := []) (ex_row (e := e) hI (hs.alloc (.cells #[.bool true, .string ⟨#[]⟩, .slice (some ⟨W'.heap.size + 1, 0, none⟩) 3 3] e')) (fun _ => True) (fun _ _ => trivial) trivial) (by simp)
  rw [show (W'.alloc (.cells #[.bool true, .string ⟨#[]⟩, .slice (some ⟨W'.heap.size + 1, 0, none⟩) 3 3] e')).heap.size = W'.heap.size + 1 by simp] at hr
  exact ⟨_, _, rfl, hn, hr, ((hs.alloc _).alloc _).1⟩
theorem lit_Z0 (w : World) : RdN w (.mk false [] []) (.agg #[.bool false, .string ⟨#[]⟩, .slice none 0 0]) := rd_text w [] (by simp)
theorem lit_Z (W : World) (a b : Int) (e : TypeId) (blk : Nat) (hblk : blk = W.heap.size) (ha : -9223372036854775808 ≤ a ∧ a ≤ 9223372036854775807) (hb : -9223372036854775808 ≤ b ∧ b ≤ 9223372036854775807) : RdZ (W.alloc (.cells #[.int .i64 a, .int .i64 b] e)) [a, b] (.slice (some ⟨blk, 0, none⟩) 2 2) := by
  subst hblk
  have hh : (W.alloc (.cells #[.int .i64 a, .int .i64 b] e)).heap[W.heap.size]? = some (.cells #[.int .i64 a, .int .i64 b] e (0, 0)) := by simp only [World.alloc, Array.getElem?_push_size]
  refine ⟨_, 2, rfl, Nat.le_refl _, by omega, fun z hz => ?_, fun _ => ⟨_, 0, rfl, fun j z hz => ?_⟩⟩
  · simp only [List.mem_cons, List.not_mem_nil, or_false] at hz
    rcases hz with rfl | rfl
    · exact ha
    · exact hb
  · rw [Nat.zero_add, cell_of_row _ _ _ _ e (0, 0) hh, ← Array.getElem?_toList]
    match j, hz with
    | 0, hz => simp at hz; subst hz; rfl
    | 1, hz => simp at hz; subst hz; rfl
    | j + 2, hz => simp at hz
theorem ex_size : size exN ≤ 1000000 := by decide +kernel
theorem at_20 {w : World} {v vp : Value} (h : RdN w exN v) (hp : RdZ w [2, 0] vp) : Calls Tryd.prog 17 #[v, vp] w (AtEnd (some (.mk false [] [])) w) := by
  have h1 := at_c h hp ex_size
  rw [ex_at] at h1
  exact h1
theorem at_00 {w : World} {v vp : Value} (h : RdN w exN v) (hp : RdZ w [0, 0] vp) : Calls Tryd.prog 17 #[v, vp] w (AtEnd none w) := by
  have h1 := at_c h hp ex_size
  rw [ex_no] at h1
  exact h1
theorem dec_1 (w : World) : Calls Tryd.prog 11 #[.string ⟨#[40, 49, 58, 97, 49, 58, 40, 40, 48, 58, 41, 41]⟩] w (DecEnd (.ok exN) w) := by
  have h := decode_c ⟨#[40, 49, 58, 97, 49, 58, 40, 40, 48, 58, 41, 41]⟩ w (by decide)
  rw [show (⟨#[40, 49, 58, 97, 49, 58, 40, 40, 48, 58, 41, 41]⟩ : ByteArray).data.toList = [40, 49, 58, 97, 49, 58, 40, 40, 48, 58, 41, 41] from rfl, ex_dec] at h
  exact h
theorem dec_2 (w : World) : Calls Tryd.prog 11 #[.string ⟨#[40, 50, 58, 97]⟩] w (DecEnd (.error 4) w) := by
  have h := decode_c ⟨#[40, 50, 58, 97]⟩ w (by decide)
  rw [show (⟨#[40, 50, 58, 97]⟩ : ByteArray).data.toList = [40, 50, 58, 97] from rfl, ex_t1] at h
  exact h
theorem dec_3 (w : World) : Calls Tryd.prog 11 #[.string ⟨#[48, 50, 58, 97, 98]⟩] w (DecEnd (.error 2) w) := by
  have h := decode_c ⟨#[48, 50, 58, 97, 98]⟩ w (by decide)
  rw [show (⟨#[48, 50, 58, 97, 98]⟩ : ByteArray).data.toList = [48, 50, 58, 97, 98] from rfl, ex_t2] at h
  exact h
theorem enc_1 {w : World} {v : Value} (h : RdN w exN v) (ht : Tab w) : Calls Tryd.prog 15 #[v] w fun e w' => e = .returned (.tuple #[.string ⟨#[40, 49, 58, 97, 49, 58, 40, 40, 48, 58, 41, 41]⟩, .int .i64 0]) ∧ Below w.heap.size w w' := by
  have h1 := encode_c h (by have := size_le exN 12 _ (encd_ok ex_enc).1; simp at this; omega) ht
  rw [ex_enc] at h1
  refine h1.mono ?_
  rintro e w' ⟨te, er, rfl, bb, he, hte⟩
  subst he hte
  exact ⟨rfl, bb⟩
set_option maxRecDepth 20000 in
set_option maxHeartbeats 2000000 in
theorem example_walk (w : World) (ht : Tab w) : Calls Tryd.prog 10 #[] w (BoolAnd true w) := by
  have B0 := Below.refl w.heap.size w
  have HT := Lib.hid ht
  clear ht
  go_enter Tryd.func10, Tryd.ntmps10
  go_wp2_with (first
    | (go_at_call 19; (with_reducible refine (leaf_walk _ _).mono ?_); rintro e w1 ⟨rfl, bb⟩; have B0 := B0.trans (bb.mono B0.size); clear bb))
  obtain ⟨W, hW⟩ : ∃ W, ((w1.alloc (.cells #[.bool false, .string ⟨#[]⟩, .slice none 0 0] 25)).alloc (.cells #[.bool true, .string ⟨#[]⟩, .slice (some ⟨w1.heap.size, 0, none⟩) 1 1] 25)) = W := ⟨_, rfl⟩
  have hI : RdM (fun g => g < W.heap.size) W exI (.agg #[.bool true, .string ⟨#[]⟩, .slice (some ⟨w1.heap.size, 0, none⟩) 1 1]) := by
    rw [← hW]
    exact rdM_keep (S := fun g => True ∧ g < _) (fun g hg => Nat.lt_of_lt_of_le hg.2 (Nat.le_refl _)) (fun _ _ _ _ h => h) _ _ (rdM_in _ _ (RdM.below (RdM.of_parts (t := []) (lit_S w1 [.mk false [] []] #[.bool false, .string ⟨#[]⟩, .slice none 0 0] 25 _ _ rfl rfl (by simp only [RdC]; exact ⟨rd_text _ [] (by simp), trivial⟩) (by simp)) (by simp)) (up_1 _ _)))
  have kb := Bn.new (w1.alloc (.cells #[.bool false, .string ⟨#[]⟩, .slice none 0 0] 25)) (.bool true) (.string ⟨#[]⟩) (.slice (some ⟨w1.heap.size, 0, none⟩) 1 1) 25
  rw [show (w1.alloc (.cells #[.bool false, .string ⟨#[]⟩, .slice none 0 0] 25)).heap.size = w1.heap.size + 1 by simp, hW] at kb
  have hs : Bw W.heap.size W W := ⟨Below.refl _ _, Nat.le_refl _⟩
  have B0 := B0.trans ((up_2 _ (.cells #[.bool false, .string ⟨#[]⟩, .slice none 0 0] 25) (.cells #[.bool true, .string ⟨#[]⟩, .slice (some ⟨w1.heap.size, 0, none⟩) 1 1] 25)).mono B0.size)
  have HS : Hid (∀ w', Bw W.heap.size W w' → w'.cell? ⟨w1.heap.size + 1, 0, none⟩ = some (.bool true) ∧ w'.cell? ⟨w1.heap.size + 1, 1, none⟩ = some (.string ⟨#[]⟩) ∧ w'.cell? ⟨w1.heap.size + 1, 2, none⟩ = some (.slice (some ⟨w1.heap.size, 0, none⟩) 1 1)) := fun w' hb => bn3 (kb.bw hb kb.lt)
  rw [hW] at B0 ⊢
  clear hW
  go_cut [2] (fun p wx => ExM W p wx)
  case first =>
    clear kb
    go_region_held3 (fun w' => w'.cell? ⟨w1.heap.size + 1, 0, none⟩ = some (.bool true) ∧ w'.cell? ⟨w1.heap.size + 1, 1, none⟩ = some (.string ⟨#[]⟩) ∧ w'.cell? ⟨w1.heap.size + 1, 2, none⟩ = some (.slice (some ⟨w1.heap.size, 0, none⟩) 1 1))
      (first | with_reducible exact HS.out _ hs | (with_reducible refine HS.out _ ?_; repeat (first | with_reducible exact hs | with_reducible refine Bw.drew ?_ | with_reducible refine Bw.alloc ?_ _ | with_reducible refine Bw.set ?_ _ (by first | omega | (simp; done) | (simp; omega)) _)))
      (first | (go_at_call 19; (with_reducible refine (leaf_walk _ _).mono ?_); rintro e w2 ⟨rfl, bb⟩; (first | have hs := hs.drew.up bb | have hs := (hs.alloc _).drew.up bb | have hs := hs.up bb | have hs := (hs.alloc _).up bb); have z0 := And.right hs; (first | have p0 := Bn.below p0 bb | (have p0 := Bn.below (Bn.drew (Bn.new _ (.bool false) (.string ⟨#[]⟩) (.slice none 0 0) 25)) bb) | (have p0 := Bn.below (Bn.new _ (.bool false) (.string ⟨#[]⟩) (.slice none 0 0) 25) bb) | skip); (try (have p0_l := Bn.lt p0; have p0_n := Nat.ne_of_lt (Bn.lt p0); have p0_0 := And.left p0; have p0_1 := And.left (And.right p0); have p0_2 := And.left (And.right (And.right p0)); have p0_3 := And.left (And.right (And.right (And.right p0))); have p0_4 := And.left (And.right (And.right (And.right (And.right p0)))); have p0_5 := And.right (And.right (And.right (And.right (And.right p0)))))); clear bb))
    all_goals go_wp2_with fail
    all_goals go_meet
    all_goals (first | with_reducible exact ex_last hI hs rfl | with_reducible exact ex_first hI hs rfl | with_reducible exact ex_store2 hI hs p0 (by omega) rfl)
  case rest =>
    obtain ⟨b, g, rfl, qa, hN, hw⟩ := hcut
    have B0 := B0.trans (hw.mono B0.size)
    have HT := Lib.hid (HT.out.below B0)
    have qa_0 := qa.1
    have qa_1 := qa.2.1
    have qa_2 := qa.2.2.1
    clear hI hs HS kb hw
    go_wp2_with (first | (go_at_call 15; (with_reducible refine (enc_1 hN HT.out).mono ?_); rintro e w3 ⟨rfl, bb⟩; have hN := hN.below bb; have qa := qa.below bb; have qa_0 := qa.1; have qa_1 := qa.2.1; have qa_2 := qa.2.2.1; have HT := Lib.hid (HT.out.below bb); have B0 := B0.trans (bb.mono B0.size); clear bb) | (go_at_call 11; (with_reducible refine (dec_1 _).mono ?_); rintro e w4 ⟨l1, t1, A1, m1, c1, er1, rfl, bb, hR⟩; obtain ⟨he, hM1⟩ := hR; subst he; have hM1 := hM1.any; have hN := hN.below bb; have qa := qa.below bb; have HT := Lib.hid (HT.out.below bb); have B0 := B0.trans (bb.mono B0.size); clear bb; have HT := Lib.hid (HT.out.below (up_1 _ (.cells #[.bool l1, .string t1, .slice A1 m1 c1] 25))); have q1 := Bn.new w4 (.bool l1) (.string t1) (.slice A1 m1 c1) 25; have B0 := B0.alloc B0.size (.cells #[.bool l1, .string t1, .slice A1 m1 c1] 25); have hN := hN.below (up_1 _ (.cells #[.bool l1, .string t1, .slice A1 m1 c1] 25)); have qa := qa.below (up_1 _ (.cells #[.bool l1, .string t1, .slice A1 m1 c1] 25)); have hM1 := hM1.below (up_1 _ (.cells #[.bool l1, .string t1, .slice A1 m1 c1] 25)); have qa_0 := qa.1; have qa_1 := qa.2.1; have qa_2 := qa.2.2.1; have q1_0 := q1.1; have q1_1 := q1.2.1; have q1_2 := q1.2.2.1) | (go_at_call 17; (with_reducible refine (at_20 (hN.below (up_1 _ _)) (lit_Z _ 2 0 _ _ (by simp) (by decide) (by decide))).mono ?_); rintro e w5 ⟨l2, t2, A2, m2, c2, er2, rfl, bb, hR⟩; obtain ⟨he, hM2⟩ := hR; subst he; have hN := (hN.below (up_1 _ (.cells #[.int .i64 2, .int .i64 0] 3))).below bb; have qa := (qa.below (up_1 _ (.cells #[.int .i64 2, .int .i64 0] 3))).below bb; have hM1 := (hM1.below (up_1 _ (.cells #[.int .i64 2, .int .i64 0] 3))).below bb; have q1 := (q1.below (up_1 _ (.cells #[.int .i64 2, .int .i64 0] 3))).below bb; have HT := Lib.hid ((HT.out.below (up_1 _ (.cells #[.int .i64 2, .int .i64 0] 3))).below bb); have B0 := (B0.alloc B0.size (.cells #[.int .i64 2, .int .i64 0] 3)).trans (bb.mono (B0.alloc B0.size (.cells #[.int .i64 2, .int .i64 0] 3)).size); clear bb; have HT := Lib.hid (HT.out.below (up_1 _ (.cells #[.bool l2, .string t2, .slice A2 m2 c2] 25))); have q2 := Bn.new w5 (.bool l2) (.string t2) (.slice A2 m2 c2) 25; have B0 := B0.alloc B0.size (.cells #[.bool l2, .string t2, .slice A2 m2 c2] 25); have hN := hN.below (up_1 _ (.cells #[.bool l2, .string t2, .slice A2 m2 c2] 25)); have qa := qa.below (up_1 _ (.cells #[.bool l2, .string t2, .slice A2 m2 c2] 25)); have hM1 := hM1.below (up_1 _ (.cells #[.bool l2, .string t2, .slice A2 m2 c2] 25)); have q1 := q1.below (up_1 _ (.cells #[.bool l2, .string t2, .slice A2 m2 c2] 25)); have hM2 := hM2.below (up_1 _ (.cells #[.bool l2, .string t2, .slice A2 m2 c2] 25)); have qa_0 := qa.1; have qa_1 := qa.2.1; have qa_2 := qa.2.2.1; have q1_0 := q1.1; have q1_1 := q1.2.1; have q1_2 := q1.2.2.1; have q2_0 := q2.1; have q2_1 := q2.2.1; have q2_2 := q2.2.2.1) | (go_at_call 11; (with_reducible refine (dec_2 _).mono ?_); rintro e w6 ⟨l3, t3, A3, m3, c3, er3, rfl, bb, hR⟩; obtain ⟨rfl, rfl, rfl, rfl, rfl, rfl⟩ := hR; have hN := hN.below bb; have qa := qa.below bb; have hM1 := hM1.below bb; have q1 := q1.below bb; have hM2 := hM2.below bb; have q2 := q2.below bb; have HT := Lib.hid (HT.out.below bb); have B0 := B0.trans (bb.mono B0.size); clear bb; have HT := Lib.hid (HT.out.below (up_1 _ (.cells #[.bool false, .string ⟨#[]⟩, .slice none 0 0] 25))); have q3 := Bn.new w6 (.bool false) (.string ⟨#[]⟩) (.slice none 0 0) 25; have B0 := B0.alloc B0.size (.cells #[.bool false, .string ⟨#[]⟩, .slice none 0 0] 25); have hN := hN.below (up_1 _ (.cells #[.bool false, .string ⟨#[]⟩, .slice none 0 0] 25)); have qa := qa.below (up_1 _ (.cells #[.bool false, .string ⟨#[]⟩, .slice none 0 0] 25)); have hM1 := hM1.below (up_1 _ (.cells #[.bool false, .string ⟨#[]⟩, .slice none 0 0] 25)); have q1 := q1.below (up_1 _ (.cells #[.bool false, .string ⟨#[]⟩, .slice none 0 0] 25)); have hM2 := hM2.below (up_1 _ (.cells #[.bool false, .string ⟨#[]⟩, .slice none 0 0] 25)); have q2 := q2.below (up_1 _ (.cells #[.bool false, .string ⟨#[]⟩, .slice none 0 0] 25)); have qa_0 := qa.1; have qa_1 := qa.2.1; have qa_2 := qa.2.2.1; have q1_0 := q1.1; have q1_1 := q1.2.1; have q1_2 := q1.2.2.1; have q2_0 := q2.1; have q2_1 := q2.2.1; have q2_2 := q2.2.2.1; have q3_0 := q3.1; have q3_1 := q3.2.1; have q3_2 := q3.2.2.1) | (go_at_call 11; (with_reducible refine (dec_3 _).mono ?_); rintro e w7 ⟨l4, t4, A4, m4, c4, er4, rfl, bb, hR⟩; obtain ⟨rfl, rfl, rfl, rfl, rfl, rfl⟩ := hR; have hN := hN.below bb; have qa := qa.below bb; have hM1 := hM1.below bb; have q1 := q1.below bb; have hM2 := hM2.below bb; have q2 := q2.below bb; have HT := Lib.hid (HT.out.below bb); have B0 := B0.trans (bb.mono B0.size); clear bb; have HT := Lib.hid (HT.out.below (up_1 _ (.cells #[.bool false, .string ⟨#[]⟩, .slice none 0 0] 25))); have q4 := Bn.new w7 (.bool false) (.string ⟨#[]⟩) (.slice none 0 0) 25; have B0 := B0.alloc B0.size (.cells #[.bool false, .string ⟨#[]⟩, .slice none 0 0] 25); have hN := hN.below (up_1 _ (.cells #[.bool false, .string ⟨#[]⟩, .slice none 0 0] 25)); have qa := qa.below (up_1 _ (.cells #[.bool false, .string ⟨#[]⟩, .slice none 0 0] 25)); have hM1 := hM1.below (up_1 _ (.cells #[.bool false, .string ⟨#[]⟩, .slice none 0 0] 25)); have q1 := q1.below (up_1 _ (.cells #[.bool false, .string ⟨#[]⟩, .slice none 0 0] 25)); have hM2 := hM2.below (up_1 _ (.cells #[.bool false, .string ⟨#[]⟩, .slice none 0 0] 25)); have q2 := q2.below (up_1 _ (.cells #[.bool false, .string ⟨#[]⟩, .slice none 0 0] 25)); have qa_0 := qa.1; have qa_1 := qa.2.1; have qa_2 := qa.2.2.1; have q1_0 := q1.1; have q1_1 := q1.2.1; have q1_2 := q1.2.2.1; have q2_0 := q2.1; have q2_1 := q2.2.1; have q2_2 := q2.2.2.1; have q4_0 := q4.1; have q4_1 := q4.2.1; have q4_2 := q4.2.2.1) | (go_at_call 17; (with_reducible refine (at_00 (hN.below (up_1 _ _)) (lit_Z _ 0 0 _ _ (by simp) (by decide) (by decide))).mono ?_); rintro e w8 ⟨l5, t5, A5, m5, c5, er5, rfl, bb, hR⟩; obtain ⟨rfl, rfl, rfl, rfl, rfl, rfl⟩ := hR; have hN := (hN.below (up_1 _ (.cells #[.int .i64 0, .int .i64 0] 3))).below bb; have qa := (qa.below (up_1 _ (.cells #[.int .i64 0, .int .i64 0] 3))).below bb; have hM1 := (hM1.below (up_1 _ (.cells #[.int .i64 0, .int .i64 0] 3))).below bb; have q1 := (q1.below (up_1 _ (.cells #[.int .i64 0, .int .i64 0] 3))).below bb; have hM2 := (hM2.below (up_1 _ (.cells #[.int .i64 0, .int .i64 0] 3))).below bb; have q2 := (q2.below (up_1 _ (.cells #[.int .i64 0, .int .i64 0] 3))).below bb; have HT := Lib.hid ((HT.out.below (up_1 _ (.cells #[.int .i64 0, .int .i64 0] 3))).below bb); have B0 := (B0.alloc B0.size (.cells #[.int .i64 0, .int .i64 0] 3)).trans (bb.mono (B0.alloc B0.size (.cells #[.int .i64 0, .int .i64 0] 3)).size); clear bb; have HT := Lib.hid (HT.out.below (up_1 _ (.cells #[.bool false, .string ⟨#[]⟩, .slice none 0 0] 25))); have q5 := Bn.new w8 (.bool false) (.string ⟨#[]⟩) (.slice none 0 0) 25; have B0 := B0.alloc B0.size (.cells #[.bool false, .string ⟨#[]⟩, .slice none 0 0] 25); have hN := hN.below (up_1 _ (.cells #[.bool false, .string ⟨#[]⟩, .slice none 0 0] 25)); have qa := qa.below (up_1 _ (.cells #[.bool false, .string ⟨#[]⟩, .slice none 0 0] 25)); have hM1 := hM1.below (up_1 _ (.cells #[.bool false, .string ⟨#[]⟩, .slice none 0 0] 25)); have q1 := q1.below (up_1 _ (.cells #[.bool false, .string ⟨#[]⟩, .slice none 0 0] 25)); have hM2 := hM2.below (up_1 _ (.cells #[.bool false, .string ⟨#[]⟩, .slice none 0 0] 25)); have q2 := q2.below (up_1 _ (.cells #[.bool false, .string ⟨#[]⟩, .slice none 0 0] 25)); have qa_0 := qa.1; have qa_1 := qa.2.1; have qa_2 := qa.2.2.1; have q1_0 := q1.1; have q1_1 := q1.2.1; have q1_2 := q1.2.2.1; have q2_0 := q2.1; have q2_1 := q2.2.1; have q2_2 := q2.2.2.1; have q5_0 := q5.1; have q5_1 := q5.2.1; have q5_2 := q5.2.2.1))
    have dr : ∀ W : World, Below W.heap.size W W.drew := fun W => (Below.refl _ _).drew
    have hN := hN.below (dr _)
    have hM1 := hM1.below (dr _)
    have hM2 := hM2.below (dr _)
    have qa := qa.below (dr _)
    have q1 := q1.below (dr _)
    have q2 := q2.below (dr _)
    have B0 := B0.drew
    clear dr
    have qa_0 := qa.1
    have qa_1 := qa.2.1
    have qa_2 := qa.2.2.1
    have q1_0 := q1.1
    have q1_1 := q1.2.1
    have q1_2 := q1.2.2.1
    have q2_0 := q2.1
    have q2_1 := q2.2.1
    have q2_2 := q2.2.2.1
    go_region_held3 (fun W => W.cell? ⟨b, 0, none⟩ = some (.bool true) ∧ W.cell? ⟨b, 1, none⟩ = some (.string ⟨#[]⟩) ∧ W.cell? ⟨b, 2, none⟩ = some (.slice (some ⟨g, 0, none⟩) 3 3) ∧ W.cell? ⟨w4.heap.size, 0, none⟩ = some (.bool l1) ∧ W.cell? ⟨w4.heap.size, 1, none⟩ = some (.string t1) ∧ W.cell? ⟨w4.heap.size, 2, none⟩ = some (.slice A1 m1 c1) ∧ W.cell? ⟨w5.heap.size, 0, none⟩ = some (.bool l2) ∧ W.cell? ⟨w5.heap.size, 1, none⟩ = some (.string t2) ∧ W.cell? ⟨w5.heap.size, 2, none⟩ = some (.slice A2 m2 c2)) (exact ⟨qa_0, qa_1, qa_2, q1_0, q1_1, q1_2, q2_0, q2_1, q2_2⟩)
      (first | (go_at_call 13; (with_reducible refine (same_yes exN exN _ _ _ hM1 hN).mono ?_); rw [eqN_yes rfl]; rintro e w9 ⟨rfl, bb⟩; have hN := hN.below bb; have hM1 := hM1.below bb; have hM2 := hM2.below bb; have qa := qa.below bb; have q1 := q1.below bb; have q2 := q2.below bb; have B0 := B0.trans (bb.mono B0.size); clear bb; have qa_0 := qa.1; have qa_1 := qa.2.1; have qa_2 := qa.2.2.1; have q1_0 := q1.1; have q1_1 := q1.2.1; have q1_2 := q1.2.2.1; have q2_0 := q2.1; have q2_1 := q2.2.1; have q2_2 := q2.2.2.1) | (go_at_call 19; (with_reducible refine (leaf_walk _ _).mono ?_); rintro e w10 ⟨rfl, bb⟩; have hN := hN.below bb; have hM1 := hM1.below bb; have hM2 := hM2.below bb; have qa := qa.below bb; have q1 := q1.below bb; have q2 := q2.below bb; have B0 := B0.trans (bb.mono B0.size); clear bb; have qa_0 := qa.1; have qa_1 := qa.2.1; have qa_2 := qa.2.2.1; have q1_0 := q1.1; have q1_1 := q1.2.1; have q1_2 := q1.2.2.1; have q2_0 := q2.1; have q2_1 := q2.2.1; have q2_2 := q2.2.2.1) | (go_at_call 13; (with_reducible refine (same_yes (.mk false [] []) (.mk false [] []) _ _ _ hM2 (lit_Z0 _)).mono ?_); rw [eqN_yes rfl]; rintro e w11 ⟨rfl, bb⟩; have hN := hN.below bb; have hM1 := hM1.below bb; have hM2 := hM2.below bb; have qa := qa.below bb; have q1 := q1.below bb; have q2 := q2.below bb; have B0 := B0.trans (bb.mono B0.size); clear bb; have qa_0 := qa.1; have qa_1 := qa.2.1; have qa_2 := qa.2.2.1; have q1_0 := q1.1; have q1_1 := q1.2.1; have q1_2 := q1.2.2.1; have q2_0 := q2.1; have q2_1 := q2.2.1; have q2_2 := q2.2.2.1))
    go_wp2
    go_ret
    exact ⟨rfl, B0⟩
end Go.Proofs.YtmklladpalcjpaaDoor
