/-
  The chapter's examples: the walk of garmentlaw07.alive, over the contracts of the program's functions.
-/
import Derived.Test.YtlinmhmhgnhmeaaDigK
namespace Go.Proofs.Ytlinmhmhgnhmeaa
open Go.RowKit Dig
set_option linter.unusedVariables false
theorem ex_h : hx 98 = [48, 48, 48, 48, 48, 48, 48, 48, 48, 48, 48, 48, 48, 48, 54, 50] := by decide +kernel
theorem ex_h2 : hx 2305843009213693951 = [49, 102, 102, 102, 102, 102, 102, 102, 102, 102, 102, 102, 102, 102, 102, 102] := by decide +kernel
theorem ex_p1 : px [48, 48, 48, 48, 48, 48, 48, 48, 48, 48, 48, 48, 48, 48, 54, 50] = .ok 98 := by rw [← ex_h, px_hx 98 (by omega), if_pos (by rw [P_eq]; omega)]
theorem ex_p2 : px [49, 102, 102, 102, 102, 102, 102, 102, 102, 102, 102, 102, 102, 102, 102, 102] = .error 3 := by rw [← ex_h2, px_hx 2305843009213693951 (by omega), if_neg (by rw [P_eq]; omega)]
theorem ex_l : lk 0 [[], []] = [11, 12094627910332] := by decide +kernel
theorem ex_o : dg [97, 98] = 107752139564777 := by decide +kernel
theorem ex_j : jn 1 1 0 = 1099511628211 := by decide +kernel
theorem ex_c : ch 0 [] = 11 := by decide +kernel
theorem par_1 (w : World) (ht : Dt w) : Calls Try.prog 21 #[.string ⟨#[48, 48, 48, 48, 48, 48, 48, 48, 48, 48, 48, 48, 48, 48, 54, 50]⟩] w (ParEnd (.ok 98) w) := by
  have h := parse_c ⟨#[48, 48, 48, 48, 48, 48, 48, 48, 48, 48, 48, 48, 48, 48, 54, 50]⟩ w ht (by decide)
  rw [show (⟨#[48, 48, 48, 48, 48, 48, 48, 48, 48, 48, 48, 48, 48, 48, 54, 50]⟩ : ByteArray).data.toList = [48, 48, 48, 48, 48, 48, 48, 48, 48, 48, 48, 48, 48, 48, 54, 50] from rfl, ex_p1] at h
  exact h
theorem par_2 (w : World) (ht : Dt w) : Calls Try.prog 21 #[.string ⟨#[49, 102, 102, 102, 102, 102, 102, 102, 102, 102, 102, 102, 102, 102, 102, 102]⟩] w (ParEnd (.error 3) w) := by
  have h := parse_c ⟨#[49, 102, 102, 102, 102, 102, 102, 102, 102, 102, 102, 102, 102, 102, 102, 102]⟩ w ht (by decide)
  rw [show (⟨#[49, 102, 102, 102, 102, 102, 102, 102, 102, 102, 102, 102, 102, 102, 102, 102]⟩ : ByteArray).data.toList = [49, 102, 102, 102, 102, 102, 102, 102, 102, 102, 102, 102, 102, 102, 102, 102] from rfl, ex_p2] at h
  exact h
theorem of_1 (w : World) (ht : Dt w) : Calls Try.prog 12 #[.string ⟨#[97, 98]⟩] w (U64End 107752139564777 w) := by
  have h := of_c ⟨#[97, 98]⟩ w ht (by decide)
  rw [show (⟨#[97, 98]⟩ : ByteArray).data.toList = [97, 98] from rfl, ex_o] at h
  exact h
theorem join_1 (w : World) (ht : Dt w) : Calls Try.prog 14 #[.int .u64 1, .int .i64 1, .int .u64 0] w (U64End 1099511628211 w) := by
  have h := join_c 1 0 1 w ht (by omega) (by omega) (by omega) (by omega)
  rw [show (1 : Int).toNat = 1 from rfl, ex_j] at h
  exact h
theorem chain_1 (w : World) (ht : Dt w) : Calls Try.prog 16 #[.int .u64 0, .string ⟨#[]⟩] w (U64End 11 w) := by
  have h := chain_c 0 ⟨#[]⟩ w ht (by omega) (by decide)
  rw [show (⟨#[]⟩ : ByteArray).data.toList = [] from rfl, ex_c] at h
  exact h
theorem hex_1 (w : World) (ht : Dt w) : Calls Try.prog 23 #[.int .u64 98] w (StrEnd [48, 48, 48, 48, 48, 48, 48, 48, 48, 48, 48, 48, 48, 48, 54, 50] w) := by
  have h := hex_c 98 w ht (by omega)
  rw [ex_h] at h
  exact h
/-- Texts written out in a new block. -/
theorem lit_T (W : World) (L : List (List UInt8)) (cs : Array Value) (e : TypeId) (b n : Nat) (hb : b = W.heap.size) (hn : n = L.length) (hc : cs.toList = L.map (fun s => .string (ofL s))) (hl : L.length ≤ 1000000) (hs : ∀ s ∈ L, s.length ≤ 9223372036854775807) : RdT (W.alloc (.cells cs e)) L (.slice (some ⟨b, 0, none⟩) n n) := by
  subst hb hn
  have hh : (W.alloc (.cells cs e)).heap[W.heap.size]? = some (.cells cs e (0, 0)) := by simp only [World.alloc, Array.getElem?_push_size]
  refine ⟨_, _, rfl, Nat.le_refl _, by omega, hs, fun _ => ⟨_, 0, rfl, fun j s hj => ?_⟩⟩
  rw [Nat.zero_add, cell_of_row _ _ _ _ e (0, 0) hh, ← Array.getElem?_toList, hc, List.getElem?_map, hj]
  rfl
set_option maxRecDepth 20000 in
set_option maxHeartbeats 1000000 in
theorem alive_walk (w : World) (ht : Dt w) : Calls Try.prog 11 #[] w (BoolAnd true w) := by
  have B0 := Below.refl w.heap.size w
  have HT := Lib.hid ht
  clear ht
  go_enter Try.func11, Try.ntmps11
  go_wp2_with (first
    | (go_at_call 21; (with_reducible refine (par_1 _ HT.out).mono ?_); rintro e w1 ⟨d1, er1, rfl, bb, h1⟩; obtain ⟨rfl, rfl⟩ := h1; have HT := Lib.hid (HT.out.below bb); have B0 := B0.trans (bb.mono B0.size); clear bb)
    | (go_at_call 21; (with_reducible refine (par_2 _ HT.out).mono ?_); rintro e w2 ⟨d2, er2, rfl, bb, h2⟩; obtain ⟨rfl, rfl⟩ := h2; have HT := Lib.hid (HT.out.below bb); have B0 := B0.trans (bb.mono B0.size); clear bb))
  have U := up_1 w2 (.cells #[.string ⟨#[]⟩, .string ⟨#[]⟩] 9)
  have HT := Lib.hid (HT.out.below U)
  have B0 := B0.trans (U.mono B0.size)
  refine (links_c [[], []] _ _ HT.out (lit_T w2 [[], []] #[.string ⟨#[]⟩, .string ⟨#[]⟩] _ _ _ rfl rfl rfl (by decide) (by simp)) (by decide) (by simp)).mono ?_
  rw [ex_l]
  rintro e w3 ⟨Ax, mx, cx, rfl, hU, bb⟩
  obtain ⟨g, off, rfl, hc0⟩ := hU.at (i := 0) (z := 11) rfl
  obtain ⟨g', off', e', hc1⟩ := hU.at (i := 1) (z := 12094627910332) rfl
  simp only [Option.some.injEq, Addr.mk.injEq, and_true] at e'
  obtain ⟨rfl, rfl⟩ := e'
  obtain ⟨A2, m2, c2, e2, Hm2, hm2, hc2⟩ := hU.named
  simp only [Value.slice.injEq] at e2
  obtain ⟨-, rfl, rfl⟩ := e2
  obtain rfl : mx = 2 := Hm2.out.symm
  have HT := Lib.hid (HT.out.below bb)
  have B0 := B0.trans (bb.mono B0.size)
  rw [Nat.add_zero] at hc0
  clear bb hU U
  have hstr : ((ofL [48, 48, 48, 48, 48, 48, 48, 48, 48, 48, 48, 48, 48, 48, 54, 50]).toList == [48, 48, 48, 48, 48, 48, 48, 48, 48, 48, 48, 48, 48, 48, 54, 50]) = true := by rw [ByteArray.toList_eq]; rfl
  go_wp2_with (first
    | (go_at_call 12; (with_reducible refine (of_1 _ HT.out).mono ?_); rintro e w4 ⟨rfl, bb⟩; have HT := Lib.hid (HT.out.below bb); have B0 := B0.trans (bb.mono B0.size); clear bb)
    | (go_at_call 14; (with_reducible refine (join_1 _ HT.out).mono ?_); rintro e w5 ⟨rfl, bb⟩; have HT := Lib.hid (HT.out.below bb); have B0 := B0.trans (bb.mono B0.size); clear bb)
    | (go_at_call 16; (with_reducible refine (chain_1 _ HT.out).mono ?_); rintro e w6 ⟨rfl, bb⟩; have HT := Lib.hid (HT.out.below bb); have B0 := B0.trans (bb.mono B0.size); clear bb)
    | (go_at_call 23; (with_reducible refine (hex_1 _ HT.out).mono ?_); rintro e w7 ⟨rfl, bb⟩; have HT := Lib.hid (HT.out.below bb); have B0 := B0.trans (bb.mono B0.size); clear bb))
  go_ret
  exact ⟨rfl, B0⟩
end Go.Proofs.Ytlinmhmhgnhmeaa
